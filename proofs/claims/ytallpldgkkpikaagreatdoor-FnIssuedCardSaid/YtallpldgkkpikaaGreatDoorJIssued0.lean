/-
  Numbers sorted, each once: without the model.
-/
import Derived.Shelf.Strings.Builder1
import Derived.Shelf.Strings.OnBuilder
import Derived.Shelf.Strconv.Itoa3
import Derived.Shelf.Slices.Turned
import Derived.Shelf.SlGeneric
import Derived.Ground.SlgnProg
import Derived.Shelf.SlicesE.Clone
import Derived.Test.YtallpldgkkpikaaGreatDoorProg
import Derived.RangeFuncNested
import Derived.RangeFuncBound
import Derived.RangeFuncCalls
import Derived.RangeFuncLeaves
import Derived.RangeFuncBox
import Derived.Shelf.Abstract
import Derived.Shelf.RegionOpen
import Derived.WalkKit
import Derived.OwnWalkIn
import Derived.TacticsInMore
import Derived.LoopNIn
import Derived.LoopIn
import Derived.Maps.AppendAt
import Derived.WalkSpells
import Derived.Outline
import Derived.Laws.Strings
import Derived.Deep.QuietTactic
import Derived.BigQuiet
import Derived.Deep.RegionWith
import Derived.WalkSmall
import Derived.ProofKit
import Derived.OpenShut
import Derived.Lib.SmallJoins
import Derived.Deep.Slices
import Derived.Lib.Bytealg
import Derived.Lib.IndexBytes
import Derived.Lib.SplitLaws
import Derived.Lib.CountLaws
import Derived.Lib.ItoaNum
import Derived.Lib.ItoaLen
import Derived.Lib.AtoiTie
import Derived.Laws.FloatArith
import Derived.Lib.SlicesCompact
namespace Go.Proofs
open Go.Shelf
def Tryz.lays169_ren : Go.Shelf.Ren := ⟨fun | 169 => 79 | n => n, fun | 70 => 117 | 9 => 9 | 0 => 0 | 72 => 119 | 37 => 22 | 127 => 148 | 3 => 3 | 5 => 5 | n => n, fun | n => n⟩
theorem Tryz.lays169 : Go.Proofs.Lays.n169 Tryz.prog Tryz.lays169_ren := {
  mixed := by kernel_rfl
  f169 := Tryz.func79.trans (congrArg some (by kernel_rfl))
  t0 := Tryz.underlying0
  a0 := Tryz.isAgg0
  z0 := Tryz.sizeOf0
  v0 := Tryz.zeroValue0
  t3 := Tryz.underlying3
  a3 := Tryz.isAgg3
  z3 := Tryz.sizeOf3
  v3 := Tryz.zeroValue3
  t9 := Tryz.underlying9
  a9 := Tryz.isAgg9
  z9 := Tryz.sizeOf9
  v9 := Tryz.zeroValue9
  t37 := Tryz.underlying22
  a37 := Tryz.isAgg22
  z37 := Tryz.sizeOf22
  v37 := Tryz.zeroValue22
  t70 := Tryz.underlying117
  a70 := Tryz.isAgg117
  z70 := Tryz.sizeOf117
  v70 := Tryz.zeroValue117
  t72 := Tryz.underlying119
  a72 := Tryz.isAgg119
  z72 := Tryz.sizeOf119
  v72 := Tryz.zeroValue119
  t127 := Tryz.underlying148
  a127 := Tryz.isAgg148
  z127 := Tryz.sizeOf148
  v127 := Tryz.zeroValue148 }
theorem Tryz.Builder_Extra_169 : Builder.Extra Tryz.prog Tryz.lays169_ren := {
  sizeBuilder := by kernel_rfl
  liesBuilder := by kernel_rfl
  t5 := Tryz.underlying5
  a5 := Tryz.isAgg5
  z5 := Tryz.sizeOf5
  v5 := Tryz.zeroValue5
  infoByte := by kernel_rfl
  cellsByte := by kernel_rfl
  sizeByte := by kernel_rfl
  neB5 := by decide }
def Tryz.lays156_ren : Go.Shelf.Ren := ⟨fun | 156 => 77 | 165 => 100 | 166 => 76 | 169 => 79 | 240 => 99 | 241 => 109 | 276 => 108 | 277 => 114 | n => n, fun | 31 => 25 | 9 => 9 | 3 => 3 | 4 => 4 | 0 => 0 | 20 => 20 | 72 => 119 | 76 => 121 | 70 => 117 | 37 => 22 | 75 => 54 | 127 => 148 | 164 => 131 | 5 => 5 | 80 => 52 | n => n, fun | n => n⟩
theorem Tryz.lays156 : Go.Proofs.Lays.n156 Tryz.prog Tryz.lays156_ren := {
  mixed := by kernel_rfl
  f156 := Tryz.func77.trans (congrArg some (by kernel_rfl))
  f165 := Tryz.func100.trans (congrArg some (by kernel_rfl))
  f166 := Tryz.func76.trans (congrArg some (by kernel_rfl))
  f169 := Tryz.func79.trans (congrArg some (by kernel_rfl))
  f240 := Tryz.func99.trans (congrArg some (by kernel_rfl))
  f241 := Tryz.func109.trans (congrArg some (by kernel_rfl))
  f276 := Tryz.func108.trans (congrArg some (by kernel_rfl))
  f277 := Tryz.func114.trans (congrArg some (by kernel_rfl))
  t0 := Tryz.underlying0
  a0 := Tryz.isAgg0
  z0 := Tryz.sizeOf0
  v0 := Tryz.zeroValue0
  t3 := Tryz.underlying3
  a3 := Tryz.isAgg3
  z3 := Tryz.sizeOf3
  v3 := Tryz.zeroValue3
  t4 := Tryz.underlying4
  a4 := Tryz.isAgg4
  z4 := Tryz.sizeOf4
  v4 := Tryz.zeroValue4
  t9 := Tryz.underlying9
  a9 := Tryz.isAgg9
  z9 := Tryz.sizeOf9
  v9 := Tryz.zeroValue9
  t20 := Tryz.underlying20
  a20 := Tryz.isAgg20
  z20 := Tryz.sizeOf20
  v20 := Tryz.zeroValue20
  t31 := Tryz.underlying25
  a31 := Tryz.isAgg25
  z31 := Tryz.sizeOf25
  v31 := Tryz.zeroValue25
  t37 := Tryz.underlying22
  a37 := Tryz.isAgg22
  z37 := Tryz.sizeOf22
  v37 := Tryz.zeroValue22
  t70 := Tryz.underlying117
  a70 := Tryz.isAgg117
  z70 := Tryz.sizeOf117
  v70 := Tryz.zeroValue117
  t72 := Tryz.underlying119
  a72 := Tryz.isAgg119
  z72 := Tryz.sizeOf119
  v72 := Tryz.zeroValue119
  t75 := Tryz.underlying54
  a75 := Tryz.isAgg54
  z75 := Tryz.sizeOf54
  v75 := Tryz.zeroValue54
  t76 := Tryz.underlying121
  a76 := Tryz.isAgg121
  z76 := Tryz.sizeOf121
  v76 := Tryz.zeroValue121
  t127 := Tryz.underlying148
  a127 := Tryz.isAgg148
  z127 := Tryz.sizeOf148
  v127 := Tryz.zeroValue148
  t164 := Tryz.underlying131
  a164 := Tryz.isAgg131
  z164 := Tryz.sizeOf131
  v164 := Tryz.zeroValue131 }
theorem Tryz.Builder_Extra_156 : Builder.Extra Tryz.prog Tryz.lays156_ren := {
  sizeBuilder := by kernel_rfl
  liesBuilder := by kernel_rfl
  t5 := Tryz.underlying5
  a5 := Tryz.isAgg5
  z5 := Tryz.sizeOf5
  v5 := Tryz.zeroValue5
  infoByte := by kernel_rfl
  cellsByte := by kernel_rfl
  sizeByte := by kernel_rfl
  neB5 := by decide }
def Tryz.lays171_ren : Go.Shelf.Ren := ⟨fun | 171 => 75 | 243 => 98 | 246 => 107 | 283 => 110 | 284 => 111 | 285 => 112 | 286 => 113 | 129 => 116 | 317 => 115 | 318 => 117 | 319 => 118 | 320 => 119 | 337 => 120 | 338 => 121 | n => n, fun | 3 => 3 | 9 => 9 | 2 => 2 | 4 => 4 | 171 => 168 | 0 => 0 | 53 => 44 | 37 => 22 | 5 => 5 | 173 => 171 | 212 => 175 | 51 => 176 | 20 => 20 | 213 => 177 | 46 => 116 | 232 => 180 | 233 => 181 | n => n, fun | 17 => 5 | 18 => 7 | 19 => 8 | n => n⟩
theorem Tryz.lays171 : Go.Proofs.LaysM.n171 Tryz.prog Tryz.lays171_ren := {
  mixed := by kernel_rfl
  f129 := Tryz.func116.trans (congrArg some (by kernel_rfl))
  f171 := Tryz.func75.trans (congrArg some (by kernel_rfl))
  f243 := Tryz.func98.trans (congrArg some (by kernel_rfl))
  f246 := Tryz.func107.trans (congrArg some (by kernel_rfl))
  f283 := Tryz.func110.trans (congrArg some (by kernel_rfl))
  f284 := Tryz.func111.trans (congrArg some (by kernel_rfl))
  f285 := Tryz.func112.trans (congrArg some (by kernel_rfl))
  f286 := Tryz.func113.trans (congrArg some (by kernel_rfl))
  f317 := Tryz.func115.trans (congrArg some (by kernel_rfl))
  f318 := Tryz.func117.trans (congrArg some (by kernel_rfl))
  f319 := Tryz.func118.trans (congrArg some (by kernel_rfl))
  f320 := Tryz.func119.trans (congrArg some (by kernel_rfl))
  f337 := Tryz.func120.trans (congrArg some (by kernel_rfl))
  f338 := Tryz.func121.trans (congrArg some (by kernel_rfl))
  t0 := Tryz.underlying0
  a0 := Tryz.isAgg0
  z0 := Tryz.sizeOf0
  v0 := Tryz.zeroValue0
  t2 := Tryz.underlying2
  a2 := Tryz.isAgg2
  z2 := Tryz.sizeOf2
  v2 := Tryz.zeroValue2
  t3 := Tryz.underlying3
  a3 := Tryz.isAgg3
  z3 := Tryz.sizeOf3
  v3 := Tryz.zeroValue3
  t4 := Tryz.underlying4
  a4 := Tryz.isAgg4
  z4 := Tryz.sizeOf4
  v4 := Tryz.zeroValue4
  t5 := Tryz.underlying5
  a5 := Tryz.isAgg5
  z5 := Tryz.sizeOf5
  v5 := Tryz.zeroValue5
  t9 := Tryz.underlying9
  a9 := Tryz.isAgg9
  z9 := Tryz.sizeOf9
  v9 := Tryz.zeroValue9
  t20 := Tryz.underlying20
  a20 := Tryz.isAgg20
  z20 := Tryz.sizeOf20
  v20 := Tryz.zeroValue20
  t37 := Tryz.underlying22
  a37 := Tryz.isAgg22
  z37 := Tryz.sizeOf22
  v37 := Tryz.zeroValue22
  t46 := Tryz.underlying116
  a46 := Tryz.isAgg116
  z46 := Tryz.sizeOf116
  v46 := Tryz.zeroValue116
  t51 := Tryz.underlying176
  a51 := Tryz.isAgg176
  z51 := Tryz.sizeOf176
  v51 := Tryz.zeroValue176
  t53 := Tryz.underlying44
  a53 := Tryz.isAgg44
  z53 := Tryz.sizeOf44
  v53 := Tryz.zeroValue44
  t171 := Tryz.underlying168
  a171 := Tryz.isAgg168
  z171 := Tryz.sizeOf168
  v171 := Tryz.zeroValue168
  t173 := Tryz.underlying171
  a173 := Tryz.isAgg171
  z173 := Tryz.sizeOf171
  v173 := Tryz.zeroValue171
  t212 := Tryz.underlying175
  a212 := Tryz.isAgg175
  z212 := Tryz.sizeOf175
  v212 := Tryz.zeroValue175
  t213 := Tryz.underlying177
  a213 := Tryz.isAgg177
  z213 := Tryz.sizeOf177
  t232 := Tryz.underlying180
  a232 := Tryz.isAgg180
  z232 := Tryz.sizeOf180
  v232 := Tryz.zeroValue180
  t233 := Tryz.underlying181
  a233 := Tryz.isAgg181
  z233 := Tryz.sizeOf181
  v233 := Tryz.zeroValue181
  g17 := by kernel_rfl
  g18 := by kernel_rfl
  g19 := by kernel_rfl
  i0 := by kernel_rfl
  i2 := by kernel_rfl
  i3 := by kernel_rfl
  i4 := by kernel_rfl
  i5 := by kernel_rfl
  i9 := by kernel_rfl
  i20 := by kernel_rfl
  i37 := by kernel_rfl
  i46 := by kernel_rfl
  i51 := by kernel_rfl
  i53 := by kernel_rfl
  i171 := by kernel_rfl
  i173 := by kernel_rfl
  i212 := by kernel_rfl
  i232 := by kernel_rfl
  i233 := by kernel_rfl
  m17 := by kernel_rfl
  m18 := by kernel_rfl
  m19 := by kernel_rfl }
def Tryz.lays107_ren : Go.Shelf.Ren := ⟨fun | 107 => 63 | 108 => 87 | n => n, fun | 28 => 24 | 3 => 3 | 4 => 4 | 0 => 0 | n => n, fun | n => n⟩
theorem Tryz.lays107 : Go.Proofs.Lays.n107 Tryz.prog Tryz.lays107_ren := {
  mixed := by kernel_rfl
  f107 := Tryz.func63.trans (congrArg some (by kernel_rfl))
  f108 := Tryz.func87.trans (congrArg some (by kernel_rfl))
  t0 := Tryz.underlying0
  a0 := Tryz.isAgg0
  z0 := Tryz.sizeOf0
  v0 := Tryz.zeroValue0
  t3 := Tryz.underlying3
  a3 := Tryz.isAgg3
  z3 := Tryz.sizeOf3
  v3 := Tryz.zeroValue3
  t4 := Tryz.underlying4
  a4 := Tryz.isAgg4
  z4 := Tryz.sizeOf4
  v4 := Tryz.zeroValue4
  t28 := Tryz.underlying24
  a28 := Tryz.isAgg24
  z28 := Tryz.sizeOf24
  v28 := Tryz.zeroValue24 }
def Tryz.lays110_ren : Go.Shelf.Ren := ⟨fun | 110 => 62 | 109 => 86 | n => n, fun | 31 => 25 | 9 => 9 | 4 => 4 | 3 => 3 | 0 => 0 | n => n, fun | n => n⟩
theorem Tryz.lays110 : Go.Proofs.Lays.n110 Tryz.prog Tryz.lays110_ren := {
  mixed := by kernel_rfl
  f109 := Tryz.func86.trans (congrArg some (by kernel_rfl))
  f110 := Tryz.func62.trans (congrArg some (by kernel_rfl))
  t0 := Tryz.underlying0
  a0 := Tryz.isAgg0
  z0 := Tryz.sizeOf0
  v0 := Tryz.zeroValue0
  t3 := Tryz.underlying3
  a3 := Tryz.isAgg3
  z3 := Tryz.sizeOf3
  v3 := Tryz.zeroValue3
  t4 := Tryz.underlying4
  a4 := Tryz.isAgg4
  z4 := Tryz.sizeOf4
  v4 := Tryz.zeroValue4
  t9 := Tryz.underlying9
  a9 := Tryz.isAgg9
  z9 := Tryz.sizeOf9
  v9 := Tryz.zeroValue9
  t31 := Tryz.underlying25
  a31 := Tryz.isAgg25
  z31 := Tryz.sizeOf25
  v31 := Tryz.zeroValue25 }
def Tryz.cloneWk_ren : Go.Shelf.Ren := ⟨fun | 41 => 66 | n => n, fun | 22 => 23 | 23 => 64 | 4 => 4 | n => n, fun | n => n⟩
theorem Tryz.cloneWk : Go.Proofs.SlLaysE0.n41 Tryz.prog Tryz.cloneWk_ren := {
  mixed := by kernel_rfl
  f41 := ⟨Tryz.f66.name, by decide, Tryz.func66.trans (congrArg some (by kernel_rfl))⟩
  t4 := Tryz.underlying4
  a4 := Tryz.isAgg4
  z4 := Tryz.sizeOf4
  v4 := Tryz.zeroValue4
  t22 := Tryz.underlying23
  a22 := Tryz.isAgg23
  z22 := Tryz.sizeOf23
  v22 := Tryz.zeroValue23 }
def Tryz.cloneIn_ren : Go.Shelf.Ren := ⟨fun | 41 => 67 | n => n, fun | 22 => 24 | 23 => 3 | 4 => 4 | n => n, fun | n => n⟩
theorem Tryz.cloneIn : Go.Proofs.SlLaysE0.n41 Tryz.prog Tryz.cloneIn_ren := {
  mixed := by kernel_rfl
  f41 := ⟨Tryz.f67.name, by decide, Tryz.func67.trans (congrArg some (by kernel_rfl))⟩
  t4 := Tryz.underlying4
  a4 := Tryz.isAgg4
  z4 := Tryz.sizeOf4
  v4 := Tryz.zeroValue4
  t22 := Tryz.underlying24
  a22 := Tryz.isAgg24
  z22 := Tryz.sizeOf24
  v22 := Tryz.zeroValue24 }
def Tryz.cloneSt_ren : Go.Shelf.Ren := ⟨fun | 41 => 68 | n => n, fun | 22 => 25 | 23 => 9 | 4 => 4 | n => n, fun | n => n⟩
theorem Tryz.cloneSt : Go.Proofs.SlLaysE0.n41 Tryz.prog Tryz.cloneSt_ren := {
  mixed := by kernel_rfl
  f41 := ⟨Tryz.f68.name, by decide, Tryz.func68.trans (congrArg some (by kernel_rfl))⟩
  t4 := Tryz.underlying4
  a4 := Tryz.isAgg4
  z4 := Tryz.sizeOf4
  v4 := Tryz.zeroValue4
  t22 := Tryz.underlying25
  a22 := Tryz.isAgg25
  z22 := Tryz.sizeOf25
  v22 := Tryz.zeroValue25 }
end Go.Proofs

namespace Go.Proofs.YtallpldgkkpikaaGreatDoor

/-- A letter a-z or a digit. -/
def wordCh (c : UInt8) : Bool := decide ((97 ≤ (c.toNat : Int) ∧ (c.toNat : Int) ≤ 122) ∨ (48 ≤ (c.toNat : Int) ∧ (c.toNat : Int) ≤ 57))
theorem wordCh_yes {c : UInt8} (h : (97 ≤ (c.toNat : Int) ∧ (c.toNat : Int) ≤ 122) ∨ (48 ≤ (c.toNat : Int) ∧ (c.toNat : Int) ≤ 57)) : wordCh c = true := decide_eq_true h
theorem wordCh_no {c : UInt8} (h : ¬ ((97 ≤ (c.toNat : Int) ∧ (c.toNat : Int) ≤ 122) ∨ (48 ≤ (c.toNat : Int) ∧ (c.toNat : Int) ≤ 57))) : wordCh c = false := decide_eq_false h

/-- The first k bytes are letters or digits. -/
def wordTo (s : ByteArray) (k : Nat) : Bool := (s.data.toList.take k).all wordCh
theorem wordTo_zero (s : ByteArray) : wordTo s 0 = true := by simp [wordTo]
theorem wordTo_succ (s : ByteArray) (k : Nat) (h : k < s.size) : wordTo s (k + 1) = (wordTo s k && wordCh s[k]) := by
  unfold wordTo
  rw [List.take_succ_eq_append_getElem (by simpa using h), List.all_append]
  simp
  rfl
theorem wordTo_mono (s : ByteArray) (k : Nat) (h : wordTo s k = false) : ∀ m, k ≤ m → wordTo s m = false := by
  intro m hm
  unfold wordTo at *
  obtain ⟨d, rfl⟩ := Nat.exists_eq_add_of_le hm
  rw [List.take_add, List.all_append, h]
  rfl

/-- A word: 1 to 8 letters or digits. -/
def wordB (s : ByteArray) : Bool := wordTo s s.size && decide (1 ≤ s.size ∧ s.size ≤ 8)
theorem wordB_bad (s : ByteArray) (k : Nat) (hk : k < s.size) (hc : wordCh s[k] = false) : wordB s = false := by
  have h1 : wordTo s (k + 1) = false := by rw [wordTo_succ s k hk, hc, Bool.and_false]
  unfold wordB
  rw [wordTo_mono s (k + 1) h1 s.size (by omega)]
  rfl
theorem wordB_end (s : ByteArray) (h : wordTo s s.size = true) : wordB s = decide (1 ≤ s.size ∧ s.size ≤ 8) := by
  unfold wordB
  rw [h]
  rfl
theorem wordB_len (s : ByteArray) (h : ¬ (1 ≤ s.size ∧ s.size ≤ 8)) : wordB s = false := by
  unfold wordB
  rw [decide_eq_false h, Bool.and_false]

/-- A text cut at the byte b, i bytes of it looked at: the pieces that are over, and where the next one begins. -/
def spP (s : ByteArray) (b : UInt8) : Nat → List ByteArray × Nat
  | 0 => ([], 0)
  | i + 1 => if i = s.size ∨ s.data.toList[i]? = some b then ((spP s b i).1 ++ [s.extract (spP s b i).2 i], i + 1) else spP s b i
def spL (s : ByteArray) (b : UInt8) (i : Nat) : List ByteArray := (spP s b i).1
def spA (s : ByteArray) (b : UInt8) (i : Nat) : Nat := (spP s b i).2
/-- A text cut at the byte b. -/
def split (s : ByteArray) (b : UInt8) : List ByteArray := spL s b (s.size + 1)

theorem spL_zero (s : ByteArray) (b : UInt8) : spL s b 0 = [] := rfl
theorem spA_zero (s : ByteArray) (b : UInt8) : spA s b 0 = 0 := rfl
theorem spA_le (s : ByteArray) (b : UInt8) : ∀ i, spA s b i ≤ i
  | 0 => Nat.le_refl _
  | i + 1 => by
    have ih := spA_le s b i
    unfold spA at *
    unfold spP
    split
    · exact Nat.le_refl _
    · omega
theorem spL_len (s : ByteArray) (b : UInt8) : ∀ i, (spL s b i).length ≤ i
  | 0 => Nat.le_refl _
  | i + 1 => by
    have ih := spL_len s b i
    unfold spL at *
    unfold spP
    split
    · simp; exact ih
    · omega
theorem at_some (s : ByteArray) (b : UInt8) (i : Nat) (h : i < s.size) : s.data.toList[i]? = some b ↔ s[i] = b := by
  rw [List.getElem?_eq_getElem (by simpa using h)]
  simp
  rfl
theorem spL_hit (s : ByteArray) (b : UInt8) (i : Nat) (h : i < s.size) (hb : s[i] = b) : spL s b (i + 1) = spL s b i ++ [s.extract (spA s b i) i] := by
  unfold spL spA
  rw [spP, if_pos (.inr ((at_some s b i h).2 hb))]
theorem spA_hit (s : ByteArray) (b : UInt8) (i : Nat) (h : i < s.size) (hb : s[i] = b) : spA s b (i + 1) = i + 1 := by
  unfold spA
  rw [spP, if_pos (.inr ((at_some s b i h).2 hb))]
theorem spL_end (s : ByteArray) (b : UInt8) : spL s b (s.size + 1) = spL s b s.size ++ [s.extract (spA s b s.size) s.size] := by
  unfold spL spA
  rw [spP, if_pos (.inl rfl)]
theorem spA_end (s : ByteArray) (b : UInt8) : spA s b (s.size + 1) = s.size + 1 := by
  unfold spA
  rw [spP, if_pos (.inl rfl)]
theorem sp_miss (s : ByteArray) (b : UInt8) (i : Nat) (h : i < s.size) (hb : s[i] ≠ b) : spP s b (i + 1) = spP s b i := by
  rw [spP, if_neg]
  rintro (e | e)
  · omega
  · exact hb ((at_some s b i h).1 e)
theorem spL_miss (s : ByteArray) (b : UInt8) (i : Nat) (h : i < s.size) (hb : s[i] ≠ b) : spL s b (i + 1) = spL s b i := by
  unfold spL
  rw [sp_miss s b i h hb]
theorem spA_miss (s : ByteArray) (b : UInt8) (i : Nat) (h : i < s.size) (hb : s[i] ≠ b) : spA s b (i + 1) = spA s b i := by
  unfold spA
  rw [sp_miss s b i h hb]
theorem split_end (s : ByteArray) (b : UInt8) : split s b = spL s b s.size ++ [s.extract (spA s b s.size) s.size] := spL_end s b
theorem split_len (s : ByteArray) (b : UInt8) : (split s b).length ≤ s.size + 1 := spL_len s b _
theorem spL_pre (s : ByteArray) (b : UInt8) : ∀ i, spL s b i <+: spL s b (i + 1) := by
  intro i
  unfold spL
  rw [spP]
  split
  · exact List.prefix_append _ _
  · exact List.prefix_refl _
theorem spL_le (s : ByteArray) (b : UInt8) (i d : Nat) : spL s b i <+: spL s b (i + d) := by
  induction d with
  | zero => exact List.prefix_refl _
  | succ d ih => exact ih.trans (spL_pre s b (i + d))
theorem spL_split (s : ByteArray) (b : UInt8) (i : Nat) (h : i ≤ s.size + 1) : spL s b i <+: split s b := by
  obtain ⟨d, hd⟩ := Nat.exists_eq_add_of_le h
  unfold split
  rw [hd]
  exact spL_le s b i d
theorem spL_lt_hit (s : ByteArray) (b : UInt8) (k : Nat) (h : k < s.size) (hb : s[k] = b) : (spL s b k).length < (split s b).length := by
  have h1 := (spL_split s b (k + 1) (by omega)).length_le
  rw [spL_hit s b k h hb] at h1
  simp at h1
  omega
theorem spL_lt_end (s : ByteArray) (b : UInt8) : (spL s b s.size).length < (split s b).length := by
  rw [split_end]
  simp
theorem spP_size (s : ByteArray) (b : UInt8) : ∀ i, ∀ x ∈ (spP s b i).1, x.size ≤ s.size
  | 0 => by intro x hx; cases hx
  | i + 1 => by
    intro x hx
    rw [spP] at hx
    split at hx
    · rw [List.mem_append] at hx
      rcases hx with hx | hx
      · exact spP_size s b i x hx
      · rw [List.mem_singleton] at hx
        subst hx
        rw [ByteArray.size_extract]
        omega
    · exact spP_size s b i x hx
theorem split_size (s : ByteArray) (b : UInt8) : ∀ x ∈ split s b, x.size ≤ s.size := spP_size s b _
theorem byte_eq {a b : UInt8} (h : (a.toNat : Int) = (b.toNat : Int)) : a = b := UInt8.toNat_inj.1 (by omega)
theorem byte_ne {a b : UInt8} (h : ¬ (a.toNat : Int) = (b.toNat : Int)) : a ≠ b := fun e => h (by rw [e])

end Go.Proofs.YtallpldgkkpikaaGreatDoor

namespace Go.Proofs.YtallpldgkkpikaaGreatDoor
open Go.RowKit Go.Shelf

theorem hid {p : Prop} (h : p) : Hid p := h
theorem ret_two {v : Value} {a b : Bool} (h : a = b) : Ending.returned (.tuple #[v, .bool a]) = .returned (.tuple #[v, .bool b]) := by rw [h]
theorem ret_bool {a b : Bool} (h : a = b) : Ending.returned (.bool a) = .returned (.bool b) := by rw [h]

set_option maxHeartbeats 400000 in
theorem l1Word_any (s : ByteArray) (w : World) (hs : s.size ≤ 1048576) :
    Calls Tryz.prog 56 #[.string s] w fun e w' => e = .returned (.bool (wordB s)) ∧ w' = w := by
  go_enter Tryz.func56, Tryz.ntmps56
  go_wp2
  go_loop [3] (fun i => ∃ k : Nat, k ≤ s.size ∧ i = .int .i64 k ∧ wordTo s k = true) (fun i => s.size - (intOf i).toNat)
  case atStart => exact ⟨0, Nat.zero_le _, rfl, wordTo_zero s⟩
  case round =>
    obtain ⟨k, hk, rfl, hw⟩ := hrel
    have HW : Hid (wordTo s k = true) := hw
    clear hw
    by_cases hlt : k < s.size
    ·
      by_cases c1 : 97 ≤ (s[k].toNat : Int)
      all_goals by_cases c2 : (s[k].toNat : Int) ≤ 122
      all_goals by_cases c3 : 48 ≤ (s[k].toNat : Int)
      all_goals by_cases c4 : (s[k].toNat : Int) ≤ 57
      all_goals first
        | (exfalso; omega)
        | (have hc : wordCh s[k] = true := wordCh_yes (by omega)
           have HC : Hid (wordCh s[k] = true) := hc
           clear hc
           go_wp2
           exact ⟨⟨k + 1, by omega, by go_num, by rw [wordTo_succ s k hlt, HW.out, HC.out]; rfl⟩, by simp [intOf]; omega⟩)
        | (have hc : wordCh s[k] = false := wordCh_no (by omega)
           have HC : Hid (wordCh s[k] = false) := hc
           clear hc
           go_wp2
           go_ret
           exact ⟨ret_bool (wordB_bad s k hlt HC.out).symm, rfl⟩)
    · obtain rfl : k = s.size := by omega
      have HE : Hid (wordB s = decide (1 ≤ s.size ∧ s.size ≤ 8)) := wordB_end s HW.out
      by_cases d1 : 1 ≤ s.size
      all_goals by_cases d2 : s.size ≤ 8
      all_goals first
        | (exfalso; omega)
        | (go_wp2
           go_ret
           exact ⟨ret_bool (by rw [HE.out, Bool.eq_iff_iff]; simp; omega), rfl⟩)

set_option maxHeartbeats 400000 in
theorem plainWord_any (s : ByteArray) (w : World) :
    Calls Tryz.prog 83 #[.string s] w fun e w' => e = .returned (.bool (wordB s)) ∧ w' = w := by
  by_cases hl : 1 ≤ s.size ∧ s.size ≤ 8
  · obtain ⟨hl1, hl2⟩ := hl
    have t1 : decide ((s.size : Int) < 1) = false := by simp; omega
    have t2 : decide (8 < (s.size : Int)) = false := by simp; omega
    go_enter Tryz.func83, Tryz.ntmps83
    go_wp2
    go_loop [3] (fun i => ∃ k : Nat, k ≤ s.size ∧ i = .int .i64 k ∧ wordTo s k = true) (fun i => s.size - (intOf i).toNat)
    case atStart => exact ⟨0, Nat.zero_le _, rfl, wordTo_zero s⟩
    case round =>
      obtain ⟨k, hk, rfl, hw⟩ := hrel
      have HW : Hid (wordTo s k = true) := hw
      clear hw
      by_cases hlt : k < s.size
      ·
        by_cases c1 : 97 ≤ (s[k].toNat : Int)
        all_goals by_cases c2 : (s[k].toNat : Int) ≤ 122
        all_goals by_cases c3 : 48 ≤ (s[k].toNat : Int)
        all_goals by_cases c4 : (s[k].toNat : Int) ≤ 57
        all_goals first
          | (exfalso; omega)
          | (have hc : wordCh s[k] = true := wordCh_yes (by omega)
             have HC : Hid (wordCh s[k] = true) := hc
             clear hc
             go_wp2
             exact ⟨⟨k + 1, by omega, by go_num, by rw [wordTo_succ s k hlt, HW.out, HC.out]; rfl⟩, by simp [intOf]; omega⟩)
          | (have hc : wordCh s[k] = false := wordCh_no (by omega)
             have HC : Hid (wordCh s[k] = false) := hc
             clear hc
             go_wp2
             go_ret
             exact ⟨ret_bool (wordB_bad s k hlt HC.out).symm, rfl⟩)
      · obtain rfl : k = s.size := by omega
        have HE : Hid (wordB s = true) := by rw [wordB_end s HW.out]; exact decide_eq_true ⟨hl1, hl2⟩
        go_wp2
        go_ret
        exact ⟨ret_bool HE.out.symm, rfl⟩
  · have HB : Hid (wordB s = false) := wordB_len s hl
    by_cases t1 : s.size < 1
    · clear hl
      go_enter Tryz.func83, Tryz.ntmps83
      go_wp2
      go_ret
      exact ⟨ret_bool HB.out.symm, rfl⟩
    · have t2 : 8 < s.size := by omega
      clear hl
      go_enter Tryz.func83, Tryz.ntmps83
      go_wp2
      go_ret
      exact ⟨ret_bool HB.out.symm, rfl⟩

/-- Behind an append onto a row of one's own nothing has turned that lay below n₀. -/
theorem below_appended {n₀ : Nat} {W w1 : World} {e : TypeId} {size k : Nat} {v : Value} {xs : List Value} {tmp : Obj} (hn₀ : n₀ ≤ W.heap.size)
    (hrow : W.ownsRow n₀ e size v k xs) (hgrow : (W.alloc tmp).grownBy w1 v.ownBlock) : Below n₀ W w1 := by
  refine ((Below.refl n₀ W).alloc hn₀ tmp).grown hgrow (by simp; omega) fun j ej => ?_
  rcases hrow.2 with ⟨rfl, _⟩ | ⟨g, cap, cur, rfl, hb, _, _⟩
  · simp [Value.ownBlock] at ej
  · obtain rfl : g = j := by simpa [Value.ownBlock] using ej
    exact hb

theorem infoStr : (Tryz.prog.info? 9).map (fun i => (i.zero, i.size, i.bytes)) = some (some (.string ByteArray.empty), 1, 16) := by kernel_rfl

set_option maxHeartbeats 400000 in
theorem l1Split_any (s : ByteArray) (c : Int) (b : UInt8) (hb : (b.toNat : Int) = c) (w : World) (hs : s.size ≤ 1048576) :
    Calls Tryz.prog 55 #[.string s, .int .u8 c] w fun e w' => ∃ v, e = .returned v ∧ w'.ownsRow w.heap.size 9 1 v (split s b).length ((split s b).map Value.string) ∧ Below w.heap.size w w' := by
  obtain ⟨i0, hi, hz0, hz1, hz2⟩ := info_parts infoStr
  have HB : Hid ((b.toNat : Int) = c) := hb
  clear hb
  go_enter Tryz.func55, Tryz.ntmps55
  go_wp2
  go_loopw [5, 6, 7] (fun out at_ i wr => ∃ k : Nat, k ≤ s.size + 1 ∧ i = .int .i64 k ∧ at_ = .int .i64 (spA s b k) ∧ wr.ownsRow w.heap.size 9 1 out (spL s b k).length ((spL s b k).map Value.string) ∧ Below w.heap.size w wr) (fun _ _ i _ => s.size + 1 - (intOf i).toNat)
  case atStart => exact ⟨0, Nat.zero_le _, rfl, rfl, World.ownsRow_nil _ _ _ _, Below.refl _ _⟩
  case round =>
    obtain ⟨k, hk, rfl, rfl, hrow, hB⟩ := hrel
    have hA := spA_le s b k
    have hL := spL_len s b k
    have hz := hB.size
    by_cases hlt : k ≤ s.size
    · by_cases hend : k = s.size
      · have e1 : ((k : Int) == (s.size : Int)) = true := by simp; omega
        have HE : Hid (k = s.size) := hend
        have hk2 : s.size ≤ k := by omega
        clear hend
        go_wp2_with (at_builtin; refine wpList_append_own _ rfl _ _ 25 rfl w.heap.size 9 i0 (.string ByteArray.empty) 1 16 Tryz.underlying25 hi hz0 hz1 hz2 rfl (by decide) _ _ _ rfl (hrow.alloc _) ⟨wr.heap.size, 0, none⟩ 1 1 [.string (s.extract (spA s b k) k)] rfl rfl (cell_one_new _ _ _) (by simp [Value.oneCell']) (by simp [maxLen]; omega) (by omega) (by simp; omega) ?_; intro v' w1 hown' hgrow _; obtain ⟨g', cap', rfl⟩ := ownsRow_succ hown')
        go_roundw
        case rel =>
          obtain rfl := HE.out
          refine ⟨s.size + 1, Nat.le_refl _, by go_num, ?_, ?_, hB.trans (below_appended hz hrow hgrow)⟩
          · rw [spA_end]; go_num
          · rw [spL_end]; simpa using hown'
        case measure => simp [intOf]; omega
      · have e1 : ((k : Int) == (s.size : Int)) = false := by simp; omega
        have hk2 : k < s.size := by omega
        by_cases hc : (s[k].toNat : Int) = c
        · have e2 : ((s[k].toNat : Int) == c) = true := by simp [hc]
          have HC : Hid (s[k] = b) := byte_eq (hc.trans HB.out.symm)
          clear hc
          go_wp2_with (at_builtin; refine wpList_append_own _ rfl _ _ 25 rfl w.heap.size 9 i0 (.string ByteArray.empty) 1 16 Tryz.underlying25 hi hz0 hz1 hz2 rfl (by decide) _ _ _ rfl (hrow.alloc _) ⟨wr.heap.size, 0, none⟩ 1 1 [.string (s.extract (spA s b k) k)] rfl rfl (cell_one_new _ _ _) (by simp [Value.oneCell']) (by simp [maxLen]; omega) (by omega) (by simp; omega) ?_; intro v' w1 hown' hgrow _; obtain ⟨g', cap', rfl⟩ := ownsRow_succ hown')
          go_roundw
          case rel =>
            refine ⟨k + 1, by omega, by go_num, ?_, ?_, hB.trans (below_appended hz hrow hgrow)⟩
            · rw [spA_hit s b k hk2 HC.out]; go_num
            · rw [spL_hit s b k hk2 HC.out]; simpa using hown'
          case measure => simp [intOf]; omega
        · have e2 : ((s[k].toNat : Int) == c) = false := by simp [hc]
          have HC : Hid (s[k] ≠ b) := byte_ne (fun e => hc (e.trans HB.out))
          clear hc
          go_wp2
          go_roundw
          case rel =>
            refine ⟨k + 1, by omega, by go_num, ?_, ?_, hB⟩
            · rw [spA_miss s b k hk2 HC.out]
            · rw [spL_miss s b k hk2 HC.out]; exact hrow
          case measure => simp [intOf]; omega
    · go_wp2
      go_ret
      have hk3 : k = s.size + 1 := by omega
      subst hk3
      exact ⟨_, rfl, hrow, hB⟩

end Go.Proofs.YtallpldgkkpikaaGreatDoor

namespace Go.Proofs.YtallpldgkkpikaaGreatDoor

def starB (x : ByteArray) : Bool := x.toList == [42]
def star2B (x : ByteArray) : Bool := x.toList == [42, 42]
/-- A word or a star. -/
def wsB (x : ByteArray) : Bool := starB x || wordB x

theorem toList_data (x : ByteArray) : x.toList = x.data.toList := ByteArray.toList_eq x
theorem star2_not_ws (x : ByteArray) (h : star2B x = true) : wsB x = false := by
  have h1 : x.data.toList = [42, 42] := by simpa [star2B, toList_data] using h
  have h2 : wordTo x x.size = false := by
    unfold wordTo
    rw [h1, show x.size = x.data.toList.length by simp, h1]
    decide
  simp [wsB, starB, wordB, toList_data, h1, h2]

/-! ### Names -/

/-- The pieces of a name pattern as they come: how many have come; none behind a piece that is one too many or none. -/
def nmStep (o : Option Nat) (x : ByteArray) : Option Nat := match o with
  | none => none
  | some n => if n = 2 then none else if wsB x = true then some (n + 1) else none
def nmSt (l : List ByteArray) : Option Nat := l.foldl nmStep (some 0)
theorem nmSt_nil : nmSt [] = some 0 := rfl
theorem nmSt_snoc (l : List ByteArray) (x : ByteArray) : nmSt (l ++ [x]) = nmStep (nmSt l) x := by simp [nmSt, List.foldl_append]
theorem nmFold_none (l : List ByteArray) : l.foldl nmStep none = none := by
  induction l with
  | nil => rfl
  | cons x l ih => simpa [List.foldl, nmStep] using ih
theorem nmSt_pre {p l : List ByteArray} (h : p <+: l) (hp : nmSt p = none) : nmSt l = none := by
  obtain ⟨r, rfl⟩ := h
  unfold nmSt at *
  rw [List.foldl_append, hp, nmFold_none]
theorem nmFold_eq (l : List ByteArray) : ∀ n, n ≤ 2 → l.foldl nmStep (some n) = if l.all wsB = true ∧ n + l.length ≤ 2 then some (n + l.length) else none := by
  induction l with
  | nil => intro n hn; simp [hn]
  | cons x l ih =>
    intro n hn
    rw [List.foldl_cons]
    by_cases h2 : n = 2
    · subst h2
      rw [show nmStep (some 2) x = none from rfl, nmFold_none, if_neg (by simp)]
    · by_cases hx : wsB x = true
      · rw [show nmStep (some n) x = some (n + 1) by simp [nmStep, h2, hx], ih (n + 1) (by omega)]
        simp only [List.all_cons, hx, Bool.true_and, List.length_cons]
        rw [show n + 1 + l.length = n + (l.length + 1) by omega]
      · rw [show nmStep (some n) x = none by simp [nmStep, h2, hx], nmFold_none, if_neg (by simp [hx])]
theorem nmSt_eq (l : List ByteArray) : nmSt l = if l.all wsB = true ∧ l.length ≤ 2 then some l.length else none := by
  have := nmFold_eq l 0 (by omega)
  simpa [nmSt] using this
theorem nmSt_le {l : List ByteArray} (h : nmSt l = some l.length) : l.length ≤ 2 := by
  rw [nmSt_eq] at h
  split at h
  · rename_i h'; exact h'.2
  · cases h
theorem nmSt_full {l : List ByteArray} (x : ByteArray) (h : nmSt l = some l.length) (h2 : l.length = 2) : nmSt (l ++ [x]) = none := by
  rw [nmSt_snoc, h, h2]
  rfl
theorem nmSt_bad {l : List ByteArray} (x : ByteArray) (h : nmSt l = some l.length) (hx : wsB x = false) : nmSt (l ++ [x]) = none := by
  rw [nmSt_snoc, h]
  simp [nmStep, hx]
theorem nmSt_good {l : List ByteArray} (x : ByteArray) (h : nmSt l = some l.length) (h2 : ¬ l.length = 2) (hx : wsB x = true) : nmSt (l ++ [x]) = some (l ++ [x]).length := by
  rw [nmSt_snoc, h]
  simp [nmStep, hx, h2]
/-- The pieces are those of a name pattern. -/
def nmB (l : List ByteArray) : Bool := decide (nmSt l = some 2)
theorem nmB_eq (l : List ByteArray) : nmB l = (decide (l.length = 2) && l.all wsB) := by
  unfold nmB
  rw [nmSt_eq]
  by_cases h : l.all wsB = true
  · by_cases h2 : l.length ≤ 2
    · simp [h, h2]
    · rw [if_neg (by simp [h2])]
      simp; omega
  · rw [if_neg (by simp [h])]
    simp at h
    simp [h]
/-- The pieces of a name pattern, none where they are not one's. -/
def nmL (l : List ByteArray) : List ByteArray := if nmB l = true then l else []
theorem nmL_yes {l : List ByteArray} (h : nmB l = true) : nmL l = l := if_pos h
theorem nmL_no {l : List ByteArray} (h : nmB l = false) : nmL l = [] := if_neg (by rw [h]; exact Bool.false_ne_true)
theorem nmB_none {l : List ByteArray} (h : nmSt l = none) : nmB l = false := by
  unfold nmB
  rw [h]
  rfl
theorem nmB_some {l : List ByteArray} (h : nmSt l = some l.length) : nmB l = decide (l.length = 2) := by
  unfold nmB
  rw [h]
  simp
theorem nmB_len {l : List ByteArray} (h : ¬ l.length = 2) : nmB l = false := by rw [nmB_eq]; simp [h]
theorem nmB_two (x y : ByteArray) : nmB [x, y] = (wsB x && wsB y) := by simp [nmB_eq]

/-! ### Paths -/

/-- The pieces of a path pattern as they come: how many have come, and whether two stars have ended it. -/
def ptStep (o : Option (Nat × Bool)) (x : ByteArray) : Option (Nat × Bool) := match o with
  | none => none
  | some (n, e) => if e = true ∨ n = 6 then none else if star2B x = true then some (n + 1, true) else if wsB x = true then some (n + 1, false) else none
def ptSt (l : List ByteArray) : Option (Nat × Bool) := l.foldl ptStep (some (0, false))
theorem ptSt_nil : ptSt [] = some (0, false) := rfl
theorem ptSt_snoc (l : List ByteArray) (x : ByteArray) : ptSt (l ++ [x]) = ptStep (ptSt l) x := by simp [ptSt, List.foldl_append]
theorem ptFold_none (l : List ByteArray) : l.foldl ptStep none = none := by
  induction l with
  | nil => rfl
  | cons x l ih => simpa [List.foldl, ptStep] using ih
theorem ptSt_pre {p l : List ByteArray} (h : p <+: l) (hp : ptSt p = none) : ptSt l = none := by
  obtain ⟨r, rfl⟩ := h
  unfold ptSt at *
  rw [List.foldl_append, hp, ptFold_none]
/-- Words and stars, two stars at the end alone. -/
def ptOk : List ByteArray → Bool
  | [] => true
  | x :: r => if star2B x = true then r.isEmpty else wsB x && ptOk r
theorem ptFold_eq (l : List ByteArray) : ∀ n, n ≤ 6 → (l.foldl ptStep (some (n, false))).isSome = (ptOk l && decide (n + l.length ≤ 6)) := by
  induction l with
  | nil => intro n hn; simp [ptOk, hn]
  | cons x l ih =>
    intro n hn
    rw [List.foldl_cons]
    by_cases h6 : n = 6
    · subst h6
      rw [show ptStep (some (6, false)) x = none from rfl, ptFold_none]
      simp
    · by_cases h2 : star2B x = true
      · rw [show ptStep (some (n, false)) x = some (n + 1, true) by simp [ptStep, h6, h2]]
        cases l with
        | nil => simp [ptOk, h2]; omega
        | cons y r => rw [List.foldl_cons, show ptStep (some (n + 1, true)) y = none by simp [ptStep], ptFold_none]; simp [ptOk, h2]
      · by_cases hx : wsB x = true
        · rw [show ptStep (some (n, false)) x = some (n + 1, false) by simp [ptStep, h6, h2, hx], ih (n + 1) (by omega)]
          simp only [ptOk, h2, hx, Bool.true_and, List.length_cons, Bool.false_eq_true, if_false]
          rw [show n + 1 + l.length = n + (l.length + 1) by omega]
        · rw [show ptStep (some (n, false)) x = none by simp [ptStep, h6, h2, hx], ptFold_none]
          simp [ptOk, h2, hx]
/-- The pieces are those of a path pattern. -/
def ptB (l : List ByteArray) : Bool := (ptSt l).isSome
theorem ptB_eq (l : List ByteArray) : ptB l = (ptOk l && decide (l.length ≤ 6)) := by
  have := ptFold_eq l 0 (by omega)
  simpa [ptB, ptSt] using this
theorem ptSt_len (l : List ByteArray) : ∀ n e m f, l.foldl ptStep (some (n, e)) = some (m, f) → m = n + l.length := by
  induction l with
  | nil => intro n e m f h; simp at h; simp [h.1]
  | cons x l ih =>
    intro n e m f h
    rw [List.foldl_cons] at h
    have hs : ptStep (some (n, e)) x = none ∨ ∃ g, ptStep (some (n, e)) x = some (n + 1, g) := by
      unfold ptStep
      simp only
      split
      · exact .inl rfl
      · split
        · exact .inr ⟨_, rfl⟩
        · split
          · exact .inr ⟨_, rfl⟩
          · exact .inl rfl
    rcases hs with hs | ⟨g, hs⟩
    · rw [hs, ptFold_none] at h; cases h
    · rw [hs] at h
      have := ih _ _ _ _ h
      simp; omega
theorem ptSt_num {l : List ByteArray} {m : Nat} {f : Bool} (h : ptSt l = some (m, f)) : m = l.length := by
  have := ptSt_len l 0 false m f h
  omega

/-- What the other program asks of the piece at i. -/
def ppAt (l : List ByteArray) (i : Nat) : Bool := wordB (l.getD i ByteArray.empty) || starB (l.getD i ByteArray.empty) || (star2B (l.getD i ByteArray.empty) && decide (i + 1 = l.length))
def ppTo (l : List ByteArray) (k : Nat) : Bool := (List.range k).all (ppAt l)
theorem ppTo_zero (l : List ByteArray) : ppTo l 0 = true := rfl
theorem ppTo_succ (l : List ByteArray) (k : Nat) : ppTo l (k + 1) = (ppTo l k && ppAt l k) := by
  unfold ppTo
  rw [List.range_succ, List.all_append]
  simp
theorem pp_ok (l : List ByteArray) : ppTo l l.length = ptOk l := by
  induction l with
  | nil => rfl
  | cons x r ih =>
    have hall : ppTo (x :: r) (r.length + 1) = (ppAt (x :: r) 0 && (List.range r.length).all (fun i => ppAt (x :: r) (i + 1))) := by
      unfold ppTo
      rw [List.range_succ_eq_map, List.all_cons, List.all_map]
      rfl
    have hsh : (List.range r.length).all (fun i => ppAt (x :: r) (i + 1)) = ppTo r r.length := by
      unfold ppTo
      have : ∀ i ∈ List.range r.length, ppAt (x :: r) (i + 1) = ppAt r i := by
        intro i _
        simp [ppAt]
      rw [Bool.eq_iff_iff, List.all_eq_true, List.all_eq_true]
      exact ⟨fun h i hi => (this i hi) ▸ h i hi, fun h i hi => (this i hi).symm ▸ h i hi⟩
    rw [List.length_cons, hall, hsh, ih]
    rw [ptOk]
    by_cases h2 : star2B x = true
    · have hn := star2_not_ws x h2
      have hw : wordB x = false := by simp [wsB] at hn; exact hn.2
      have hs : starB x = false := by simp [wsB] at hn; exact hn.1
      rw [if_pos h2]
      simp only [ppAt, List.getD_cons_zero, hw, hs, h2, Bool.or_false, Bool.true_and, Bool.false_or, List.length_cons]
      cases r with
      | nil => simp [ptOk]
      | cons y t => simp
    · rw [if_neg h2]
      simp at h2
      simp only [ppAt, List.getD_cons_zero, h2, Bool.false_and, Bool.or_false, wsB]
      rw [Bool.or_comm (wordB x)]
theorem plain_ok (l : List ByteArray) (h : l.all wordB = true) : ptOk l = true := by
  induction l with
  | nil => rfl
  | cons x r ih =>
    simp only [List.all_cons, Bool.and_eq_true] at h
    unfold ptOk
    by_cases h2 : star2B x = true
    · have hn := star2_not_ws x h2
      simp [wsB, h.1] at hn
    · rw [if_neg h2]
      simp [wsB, h.1, ih h.2]

/-- Whether two stars have ended what has come. -/
def endB (l : List ByteArray) : Bool := match ptSt l with
  | some (_, e) => e
  | none => false
theorem pt_ended {l : List ByteArray} (x : ByteArray) (h : ptSt l = some (l.length, endB l)) (he : endB l = true) : ptSt (l ++ [x]) = none := by
  rw [ptSt_snoc, h, he]
  simp [ptStep]
theorem pt_full {l : List ByteArray} (x : ByteArray) (h : ptSt l = some (l.length, endB l)) (h6 : l.length = 6) : ptSt (l ++ [x]) = none := by
  rw [ptSt_snoc, h, h6]
  simp [ptStep]
theorem pt_bad {l : List ByteArray} (x : ByteArray) (h : ptSt l = some (l.length, endB l)) (h2 : star2B x = false) (hx : wsB x = false) : ptSt (l ++ [x]) = none := by
  rw [ptSt_snoc, h]
  simp [ptStep, h2, hx]
theorem pt_end {l : List ByteArray} (x : ByteArray) (h : ptSt l = some (l.length, endB l)) (he : endB l = false) (h6 : ¬ l.length = 6) (h2 : star2B x = true) : ptSt (l ++ [x]) = some ((l ++ [x]).length, true) := by
  rw [ptSt_snoc, h, he]
  simp [ptStep, h6, h2]
theorem pt_on {l : List ByteArray} (x : ByteArray) (h : ptSt l = some (l.length, endB l)) (he : endB l = false) (h6 : ¬ l.length = 6) (h2 : star2B x = false) (hx : wsB x = true) : ptSt (l ++ [x]) = some ((l ++ [x]).length, false) := by
  rw [ptSt_snoc, h, he]
  simp [ptStep, h6, h2, hx]
theorem endB_of {l : List ByteArray} {n : Nat} {e : Bool} (h : ptSt l = some (n, e)) : endB l = e := by
  unfold endB
  rw [h]
theorem pt_le {l : List ByteArray} (h : ptSt l = some (l.length, endB l)) : l.length ≤ 6 := by
  have : ptB l = true := by unfold ptB; rw [h]; rfl
  rw [ptB_eq] at this
  simp at this
  exact this.2

/-- The pieces behind a text's first slash; none where it is no path's form. -/
def slashB (s : ByteArray) : Bool := s.toList == [47]
def headB (s : ByteArray) : Bool := s.data.toList.head? == some 47
def pathPs (s : ByteArray) : Option (List ByteArray) := if slashB s = true then some [] else if headB s = true then some (split (s.extract 1 s.size) 47) else none
theorem pathPs_slash {s : ByteArray} (h : slashB s = true) : pathPs s = some [] := if_pos h
theorem pathPs_head {s : ByteArray} (h : slashB s = false) (h2 : headB s = true) : pathPs s = some (split (s.extract 1 s.size) 47) := by
  unfold pathPs
  rw [if_neg (by simp [h]), if_pos h2]
theorem pathPs_none {s : ByteArray} (h : slashB s = false) (h2 : headB s = false) : pathPs s = none := by
  unfold pathPs
  rw [if_neg (by simp [h]), if_neg (by simp [h2])]
/-- The text is a path pattern. -/
def ptBs (s : ByteArray) : Bool := match pathPs s with
  | none => false
  | some l => ptB l
def ptLs (s : ByteArray) : List ByteArray := if ptBs s = true then (pathPs s).getD [] else []
theorem ptLs_no {s : ByteArray} (h : ptBs s = false) : ptLs s = [] := if_neg (by rw [h]; exact Bool.false_ne_true)
theorem ptLs_yes {s : ByteArray} (h : ptBs s = true) {l : List ByteArray} (hl : pathPs s = some l) : ptLs s = l := by
  unfold ptLs
  rw [if_pos h, hl]
  rfl
theorem ptBs_some {s : ByteArray} {l : List ByteArray} (hl : pathPs s = some l) : ptBs s = ptB l := by
  unfold ptBs
  rw [hl]
theorem ptBs_none {s : ByteArray} (hl : pathPs s = none) : ptBs s = false := by
  unfold ptBs
  rw [hl]
theorem ptB_none {l : List ByteArray} (h : ptSt l = none) : ptB l = false := by
  unfold ptB
  rw [h]
  rfl
theorem ptB_some {l : List ByteArray} {x : Nat × Bool} (h : ptSt l = some x) : ptB l = true := by
  unfold ptB
  rw [h]
  rfl
theorem headB_at {s : ByteArray} (h : 0 < s.size) (hb : s[0] = 47) : headB s = true := by
  have h0 : 0 < s.data.toList.length := by simpa using h
  have : s.data.toList.head? = some s[0] := by
    rw [List.head?_eq_getElem?, List.getElem?_eq_getElem h0]
    rfl
  unfold headB
  rw [this, hb]
  rfl
theorem headB_not {s : ByteArray} (h : 0 < s.size) (hb : s[0] ≠ 47) : headB s = false := by
  have h0 : 0 < s.data.toList.length := by simpa using h
  have : s.data.toList.head? = some s[0] := by
    rw [List.head?_eq_getElem?, List.getElem?_eq_getElem h0]
    rfl
  unfold headB
  rw [this]
  simp [hb]
theorem headB_empty {s : ByteArray} (h : s.size = 0) : headB s = false := by
  have : s.data.toList = [] := List.eq_nil_of_length_eq_zero (by simpa using h)
  unfold headB
  rw [this]
  rfl
theorem size_toList (s : ByteArray) : s.toList.isEmpty = decide (s.size = 0) := by
  rw [toList_data, Bool.eq_iff_iff, List.isEmpty_iff]
  simp only [decide_eq_true_eq]
  exact ⟨fun h => by have := congrArg List.length h; simpa using this, fun h => List.eq_nil_of_length_eq_zero (by simpa using h)⟩
theorem rest_size (s : ByteArray) : (s.extract 1 s.size).size ≤ s.size := by
  rw [ByteArray.size_extract]
  omega

/-- What the specification's words of a text are, and whether they are few enough. -/
def wL (s : ByteArray) : List ByteArray := (pathPs s).getD []
def wOk (s : ByteArray) : Bool := match pathPs s with
  | none => false
  | some l => decide (l.length ≤ 6)
theorem wL_some {s : ByteArray} {l : List ByteArray} (h : pathPs s = some l) : wL s = l := by unfold wL; rw [h]; rfl
theorem wL_none {s : ByteArray} (h : pathPs s = none) : wL s = [] := by unfold wL; rw [h]; rfl
theorem wOk_some {s : ByteArray} {l : List ByteArray} (h : pathPs s = some l) : wOk s = decide (l.length ≤ 6) := by unfold wOk; rw [h]
theorem wOk_none {s : ByteArray} (h : pathPs s = none) : wOk s = false := by unfold wOk; rw [h]
theorem wL_mem {s x : ByteArray} (h : x ∈ wL s) : x.size ≤ s.size := by
  unfold wL pathPs at h
  split at h
  · cases h
  · split at h
    · exact Nat.le_trans (split_size _ _ x h) (rest_size s)
    · cases h
theorem wL_len (s : ByteArray) : (wL s).length ≤ s.size + 1 := by
  unfold wL pathPs
  split
  · simp
  · split
    · exact Nat.le_trans (split_len _ _) (by have := rest_size s; omega)
    · simp
def allTo (xs : List ByteArray) (k : Nat) : Bool := (xs.take k).all wordB
theorem allTo_zero (xs : List ByteArray) : allTo xs 0 = true := by simp [allTo]
theorem allTo_succ (xs : List ByteArray) (k : Nat) (h : k < xs.length) : allTo xs (k + 1) = (allTo xs k && wordB xs[k]) := by
  unfold allTo
  rw [List.take_succ_eq_append_getElem h, List.all_append]
  simp
theorem allTo_end (xs : List ByteArray) : allTo xs xs.length = xs.all wordB := by simp [allTo]
theorem all_bad (xs : List ByteArray) (k : Nat) (h : k < xs.length) (hb : wordB xs[k] = false) : xs.all wordB = false := by
  rw [List.all_eq_false]
  exact ⟨xs[k], List.getElem_mem h, by simp [hb]⟩
/-- The specification's loops, k rounds over. -/
def gpTo (s : ByteArray) (k : Nat) : Bool := wOk s && allTo (wL s) k
theorem gpTo_zero (s : ByteArray) : gpTo s 0 = wOk s := by simp [gpTo, allTo_zero]
theorem gpTo_no {s : ByteArray} {k : Nat} (h : k < (wL s).length) (hg : gpTo s k = false) : gpTo s (k + 1) = false := by
  unfold gpTo at *
  rw [allTo_succ _ k h, ← Bool.and_assoc, hg]
  rfl
theorem gpTo_yes {s : ByteArray} {k : Nat} (h : k < (wL s).length) (hg : gpTo s k = true) : gpTo s (k + 1) = wordB (wL s)[k] := by
  unfold gpTo at *
  rw [allTo_succ _ k h, ← Bool.and_assoc, hg]
  rfl
def pgTo (s : ByteArray) (k : Nat) : Bool := wOk s && ppTo (wL s) k
theorem pgTo_zero (s : ByteArray) : pgTo s 0 = wOk s := by simp [pgTo, ppTo_zero]
theorem pgTo_no {s : ByteArray} {k : Nat} (hg : pgTo s k = false) : pgTo s (k + 1) = false := by
  unfold pgTo at *
  rw [ppTo_succ, ← Bool.and_assoc, hg]
  rfl
theorem pgTo_yes {s : ByteArray} {k : Nat} (h : k < (wL s).length) (hg : pgTo s k = true) : pgTo s (k + 1) = (wordB (wL s)[k] || starB (wL s)[k] || (star2B (wL s)[k] && decide (k + 1 = (wL s).length))) := by
  unfold pgTo at *
  rw [ppTo_succ, ← Bool.and_assoc, hg, Bool.true_and]
  unfold ppAt
  rw [List.getD_eq_getElem?_getD, List.getElem?_eq_getElem h]
  rfl
/-- The text is a path. -/
def gpB (s : ByteArray) : Bool := ptBs s && (ptLs s).all wordB
theorem gp_end (s : ByteArray) : gpTo s (wL s).length = gpB s := by
  unfold gpTo gpB
  rw [allTo_end]
  cases hp : pathPs s with
  | none => rw [wOk_none hp, ptBs_none hp]; rfl
  | some l =>
    rw [wOk_some hp, wL_some hp, ptBs_some hp]
    cases hb : ptB l with
    | true =>
      rw [ptLs_yes (by rw [ptBs_some hp]; exact hb) hp]
      rw [ptB_eq] at hb
      simp at hb
      simp [hb.2]
    | false =>
      rw [ptB_eq] at hb
      cases ha : l.all wordB with
      | false => simp
      | true => rw [plain_ok l ha] at hb; simp at hb; simp; omega
theorem pg_end (s : ByteArray) : pgTo s (wL s).length = ptBs s := by
  unfold pgTo
  cases hp : pathPs s with
  | none => rw [wOk_none hp, ptBs_none hp]; rfl
  | some l => rw [wOk_some hp, wL_some hp, ptBs_some hp, ptB_eq, pp_ok, Bool.and_comm]
/-- The pieces of a name. -/
def gnB (l : List ByteArray) : Bool := decide (l.length = 2) && l.all wordB

end Go.Proofs.YtallpldgkkpikaaGreatDoor

namespace Go.Proofs.YtallpldgkkpikaaGreatDoor
open Go.RowKit Go.Shelf
attribute [local go_sem] Oper.semAt_some

/-- What a round keeps for the iterator: its captured text's box. -/
def KeepsAt (B : Nat) (W W' : World) : Prop := W'.heap[B]? = W.heap[B]?
theorem keepsAt_t {Bn : Nat} {A B C : World} (h : KeepsAt Bn A B) (k : KeepsAt Bn B C) : KeepsAt Bn A C := Eq.trans k h

set_option maxHeartbeats 1000000 in
theorem pieces_in (F : Fence) (n : Nat) (hf : F.fn 81) (hro : F.round = none) (s : ByteArray) (w : World) :
    CallsIn F n Tryz.prog 81 #[.string s] w fun e w' => e = .returned (.func (.func 101) #[] #[.pointer (some ⟨w.heap.size, 0, none⟩)]) ∧ w' = w.alloc (.cells #[.string s] 9) := by
  refine callsIn_of_wp Tryz.func81 rfl hf ?_ hro
  simp only [Tryz.ntmps81, List.size_toArray, List.length_cons, List.length_nil, Nat.reduceAdd, Nat.reduceSub, Array.replicate_succ, Array.replicate_zero, List.push_toArray, List.append_toArray, List.nil_append, List.cons_append]
  gi_wp2
  go_ret
  exact ⟨rfl, rfl⟩

set_option maxRecDepth 100000 in
set_option maxHeartbeats 1000000 in
theorem pieces1_in (F : Fence) (n : Nat) (hf : F.fn 101) (hro : F.round = none) (hn : 1 ≤ n) (l Bn : Nat) (s : ByteArray) (hs : s.size ≤ 1048576) (J Jx : List ByteArray → World → Prop)
    (hY : ∀ pre x W, J pre W → pre.length < (split s 47).length → YieldAt F (n - 1) Tryz.prog l #[.string x] W fun e W' =>
      (e = .returned (.bool true) ∧ J (pre ++ [x]) W' ∧ KeepsAt Bn W W') ∨ (e = .returned (.bool false) ∧ Jx (pre ++ [x]) W'))
    (W : World) (hBn : Boxed W Bn 9 (.string s)) (h0 : J [] W) :
    CallsIn F n Tryz.prog 101 #[.func (.yield l) #[] #[], .pointer (some ⟨Bn, 0, none⟩)] W fun e W' => (∃ v, e = .returned v) ∧
      ((∃ ys, ys = split s 47 ∧ J ys W') ∨ (∃ pre, pre <+: split s 47 ∧ Jx pre W')) := by
  refine callsIn_of_wp Tryz.func101 rfl hf ?_ hro
  simp only [Tryz.ntmps101, List.size_toArray, List.length_cons, List.length_nil, Nat.reduceAdd, Nat.reduceSub, Array.replicate_succ, Array.replicate_zero, List.push_toArray, List.append_toArray, List.nil_append, List.cons_append]
  gi_wp2
  gi_loopw [3, 4] (fun fr i wr => ∃ k : Nat, k ≤ s.size ∧ i = .int .i64 k ∧ fr = .int .i64 (spA s 47 k) ∧ J (spL s 47 k) wr ∧ Boxed wr Bn 9 (.string s)) (fun _ i _ => s.size - (intOf i).toNat)
  case atStart => exact ⟨0, Nat.zero_le _, rfl, rfl, h0, hBn⟩
  case round =>
    obtain ⟨k, hk, rfl, rfl, hJ, hbox⟩ := hrel
    have hcell := hbox.cell
    have hA := spA_le s 47 k
    by_cases hlt : k < s.size
    · by_cases hc : (s[k].toNat : Int) = 47
      · have e2 : ((s[k].toNat : Int) != 47) = false := by simp [hc]
        have HC : Hid (s[k] = 47) := byte_eq (b := 47) hc
        clear hc
        obtain ⟨fn, tmps, assign, body, hy, hR⟩ := hY _ (s.extract (spA s 47 k) k) wr hJ (spL_lt_hit s 47 k hlt HC.out)
        gi_wp2
        refine hR.mono ?_
        rintro e W3 (⟨rfl, hJ3, hk3⟩ | ⟨rfl, hJx3⟩)
        · gi_wp2
          go_roundw
          case rel =>
            refine ⟨k + 1, by omega, by go_num, ?_, ?_, Eq.trans hk3 hbox⟩
            · rw [spA_hit s 47 k hlt HC.out]; go_num
            · rw [spL_hit s 47 k hlt HC.out]; exact hJ3
          case measure => simp [intOf]; omega
        · gi_wp2
          refine bodyPost_ret (results_none rfl _ _ _) rfl ?_
          exact ⟨⟨_, rfl⟩, .inr ⟨_, by rw [← spL_hit s 47 k hlt HC.out]; exact spL_split s 47 (k + 1) (by omega), hJx3⟩⟩
      · have e2 : ((s[k].toNat : Int) != 47) = true := by simpa using hc
        have HC : Hid (s[k] ≠ 47) := byte_ne (b := 47) hc
        clear hc
        gi_wp2
        go_roundw
        case rel =>
          refine ⟨k + 1, by omega, by go_num, ?_, ?_, hbox⟩
          · rw [spA_miss s 47 k hlt HC.out]
          · rw [spL_miss s 47 k hlt HC.out]; exact hJ
        case measure => simp [intOf]; omega
    · obtain rfl : k = s.size := by omega
      obtain ⟨fn, tmps, assign, body, hy, hR⟩ := hY _ (s.extract (spA s 47 s.size) s.size) wr hJ (spL_lt_end s 47)
      gi_wp2
      refine hR.mono ?_
      rintro e W3 (⟨rfl, hJ3, hk3⟩ | ⟨rfl, hJx3⟩)
      · gi_wp2
        go_end0
        exact ⟨⟨_, rfl⟩, .inl ⟨_, rfl, by rw [split_end]; exact hJ3⟩⟩
      · gi_wp2
        go_end0
        exact ⟨⟨_, rfl⟩, .inr ⟨_, by rw [split_end]; exact List.prefix_refl _, hJx3⟩⟩

theorem pieces_stops (F : Fence) (n : Nat) (hf : F.fn 101) (hro : F.round = none) (hn : 1 ≤ n) (Bn : Nat) (s : ByteArray) (hs : s.size ≤ 1048576) (w : World) (hc : Boxed w Bn 9 (.string s)) :
    SeqStopsK F n Tryz.prog 101 #[.pointer (some ⟨Bn, 0, none⟩)] (fun x : ByteArray => #[Value.string x]) (KeepsAt Bn) (fun ys => ys = split s 47) (fun pre => pre <+: split s 47) (split s 47).length w := fun l J Jx W hW _ _ hY h0 =>
  pieces1_in F n hf hro hn l Bn s hs J Jx hY W ((hW.block Bn hc.lt).trans hc) h0

set_option maxHeartbeats 400000 in
theorem wordOrStar_any (s : ByteArray) (w : World) :
    Calls Tryz.prog 82 #[.string s] w fun e w' => e = .returned (.bool (wsB s)) ∧ w' = w := by
  by_cases h : starB s = true
  · have h1 : (s.toList == [42]) = true := h
    have HW : Hid (wsB s = true) := by unfold wsB; rw [h]; rfl
    clear h
    go_enter Tryz.func82, Tryz.ntmps82
    go_wp2
    go_ret
    exact ⟨ret_bool HW.out.symm, rfl⟩
  · have h1 : (s.toList == [42]) = false := by simpa [starB] using h
    have HW : Hid (wsB s = wordB s) := by unfold wsB; simp at h; rw [h]; rfl
    clear h
    go_enter Tryz.func82, Tryz.ntmps82
    go_wp2_with (go_at_call 83; refine (plainWord_any _ _).mono ?_; rintro e w' ⟨rfl, rfl⟩)
    go_ret
    exact ⟨ret_bool HW.out.symm, rfl⟩

/-- What owns a row of n is a slice of length n. -/
theorem ownsRow_len {W : World} {base : Nat} {e : TypeId} {size : Nat} {v : Value} {k : Nat} {xs : List Value} (h : W.ownsRow base e size v k xs) : ∃ a cap, v = .slice a k cap := by
  rcases h.2 with ⟨rfl, rfl⟩ | ⟨g, cap, _, rfl, _⟩
  · exact ⟨none, 0, rfl⟩
  · exact ⟨_, cap, rfl⟩
/-- What owns a row owns it where nothing old has turned. -/
theorem ownsRow_below {w w' : World} {base : Nat} {e : TypeId} {size : Nat} {v : Value} {k : Nat} {xs : List Value} (h : w.ownsRow base e size v k xs) (hB : Below w.heap.size w w') : w'.ownsRow base e size v k xs := by
  refine ⟨h.1, ?_⟩
  rcases h.2 with h0 | ⟨g, cap, cur, hv, hg, hb, r⟩
  · exact .inl h0
  · exact .inr ⟨g, cap, cur, hv, hg, (hB.block g (Array.getElem?_eq_some_iff.1 hb).1).trans hb, r⟩
theorem ownsRow_base {W : World} {base base' : Nat} {e : TypeId} {size : Nat} {v : Value} {k : Nat} {xs : List Value} (h : W.ownsRow base e size v k xs) (hb : base' ≤ base) : W.ownsRow base' e size v k xs := by
  refine ⟨h.1, ?_⟩
  rcases h.2 with h0 | ⟨g, cap, cur, hv, hg, r⟩
  · exact .inl h0
  · exact .inr ⟨g, cap, cur, hv, Nat.le_trans hb hg, r⟩
theorem ownsRow_low {W : World} {base : Nat} {e : TypeId} {size : Nat} {v : Value} {k B : Nat} {xs : List Value} (h : W.ownsRow base e size v k xs) (hB : B < base) : some B ≠ v.ownBlock := by
  rcases h.2 with ⟨rfl, _⟩ | ⟨g, cap, cur, rfl, hg, _⟩
  · simp [Value.ownBlock]
  · simp [Value.ownBlock]; omega
/-- 'out = append(out, x)': out's box lies at B below the row: behind the store. -/
theorem boxed_appended {W w1 : World} {n₁ B : Nat} {t e : TypeId} {size : Nat} {v v' : Value} {k m : Nat} {xs ys : List Value} {tmp : Obj}
    (hv : Boxed W B t v) (hB : B < n₁) (hn₁ : n₁ ≤ W.heap.size) (hrow : W.ownsRow n₁ e size v k xs) (hown' : w1.ownsRow n₁ e size v' m ys) (hgrow : (W.alloc tmp).grownBy w1 v.ownBlock) :
    Boxed w1 B t v ∧ Boxed (w1.setCell ⟨B, 0, none⟩ v') B t v' ∧ (w1.setCell ⟨B, 0, none⟩ v').ownsRow n₁ e size v' m ys ∧ KeepsOthers W (w1.setCell ⟨B, 0, none⟩ v') ∧ Below B W (w1.setCell ⟨B, 0, none⟩ v') ∧
      (∀ j, j < n₁ → j ≠ B → (w1.setCell ⟨B, 0, none⟩ v').heap[j]? = W.heap[j]?) := by
  have hv1 : Boxed w1 B t v := (hv.alloc tmp).kept hgrow (ownsRow_low hrow hB)
  have hbl := below_appended hn₁ hrow hgrow
  refine ⟨hv1, hv1.set v', hown'.kept (grownBy_setCell' w1 B v') (.inr (ownsRow_low hown' hB).symm), ?_, ?_, ?_⟩
  · refine ((KeepsOthers.alloc W tmp).trans (KeepsOthers.of_grownBy hgrow fun j o ej hj => ?_)).trans (KeepsOthers.setCell _ _ _)
    rcases (hrow.alloc tmp).2 with ⟨rfl, _⟩ | ⟨g, cap, cur, rfl, _, hgb, _⟩
    · simp [Value.ownBlock] at ej
    · obtain rfl : g = j := by simpa [Value.ownBlock] using ej
      rw [hgb] at hj; cases hj; rfl
  · exact (hbl.mono (Nat.le_of_lt hB)).setCell (p := ⟨B, 0, none⟩) (Nat.le_refl _) v'
  · intro j hj hne
    exact (Below.heap_setCell _ _ _ j hne).trans (hbl.block j hj)

set_option maxRecDepth 100000 in
set_option maxHeartbeats 2000000 in
theorem wordsOfName_any (s : ByteArray) (w : World) (hs : s.size ≤ 1048576) :
    Calls Tryz.prog 59 #[.string s] w fun e W' => ∃ v, e = .returned (.tuple #[v, .bool (nmB (split s 47))]) ∧ W'.ownsRow w.heap.size 9 1 v (nmL (split s 47)).length ((nmL (split s 47)).map Value.string) ∧ Below w.heap.size w W' := by
  obtain ⟨i0, hi, hz0, hz1, hz2⟩ := info_parts infoStr
  refine (callsIn_wide (n := 3)).1 ?_
  refine callsIn_of_wp_marks Tryz.func59 rfl trivial ?_ rfl
  simp only [Tryz.ntmps59, List.size_toArray, List.length_cons, List.length_nil, Nat.reduceAdd, Nat.reduceSub, Array.replicate_succ, Array.replicate_zero, List.push_toArray, List.append_toArray, List.nil_append, List.cons_append]
  gi_wp2_with (refine ⟨trivial, ?_⟩; gi_at_call 81; refine (pieces_in Fence.wide _ trivial rfl _ _).mono ?_; rintro e w' ⟨rfl, rfl⟩)
  have b0 := Boxed.new w 25 (.slice none 0 0)
  have b1 := Boxed.new (w.alloc (.cells #[.slice none 0 0] 25)) 4 (.bool false)
  have b2 := Boxed.new ((w.alloc (.cells #[.slice none 0 0] 25)).alloc (.cells #[.bool false] 4)) 25 (.slice none 0 0)
  have b3 := Boxed.new (((w.alloc (.cells #[.slice none 0 0] 25)).alloc (.cells #[.bool false] 4)).alloc (.cells #[.slice none 0 0] 25)) 9 (.string s)
  simp only [World.size_alloc] at b1 b2 b3
  have hB0 : Below w.heap.size w ((((w.alloc (.cells #[.slice none 0 0] 25)).alloc (.cells #[.bool false] 4)).alloc (.cells #[.slice none 0 0] 25)).alloc (.cells #[.string s] 9)) := ((((Below.refl _ w).alloc (Nat.le_refl _) _).alloc (by simp) _).alloc (by simp; omega) _).alloc (by simp; omega) _
  refine wpIn_rangeFunc_ownG rfl (by omega) (gf := 101) (lb := #[.pointer (some ⟨w.heap.size + 1 + 1 + 1, 0, none⟩)]) rfl trivial (enters_of Tryz.func101 (by kernel_rfl) rfl)
    (pieces_stops Fence.wide _ trivial rfl (by omega) (w.heap.size + 1 + 1 + 1) s hs _ b3) keepsAt_t (fun W l o o' hl h _ _ => World.putObj_heap_other (by simp at hl; omega)) (Below.refl _ _) (fun _ => rfl)
    (fun pre W => (∃ v, Boxed W (w.heap.size + 1 + 1) 25 v ∧ W.ownsRow (w.heap.size + 1 + 1 + 1 + 1) 9 1 v pre.length (pre.map Value.string) ∧ True) ∧ (Boxed W w.heap.size 25 (.slice none 0 0) ∧ Boxed W (w.heap.size + 1) 4 (.bool false) ∧ Boxed W (w.heap.size + 1 + 1 + 1) 9 (.string s)) ∧ (nmSt pre = some pre.length) ∧ Below w.heap.size w W)
    (fun c pre W => (c = .ret ∧ nmSt pre = none) ∧ (Boxed W w.heap.size 25 (.slice none 0 0) ∧ Boxed W (w.heap.size + 1) 4 (.bool false)) ∧ Below w.heap.size w W)
    (OwnFrom.and (Own.from (holdsRow_own (w.heap.size + 1 + 1 + 1 + 1) (w.heap.size + 1 + 1) 25 9 1 (fun pre : List ByteArray => pre.length) (fun pre => pre.map Value.string) (fun _ _ => True)) _) (OwnFrom.and (OwnFrom.and (Own.from (boxed_own _ _ (fun _ => _)) _) (OwnFrom.and (Own.from (boxed_own _ _ (fun _ => _)) _) (Own.from (boxed_own _ _ (fun _ => _)) _))) (OwnFrom.and (ownFrom_pure _ _) (ownFrom_below (Nat.le_refl _) (by simp; omega)))))
    (fun c => OwnFrom.and (ownFrom_pure _ _) (OwnFrom.and (OwnFrom.and (Own.from (boxed_own _ _ (fun _ => _)) _) (Own.from (boxed_own _ _ (fun _ => _)) _)) (ownFrom_below (Nat.le_refl _) (by simp; omega))))
    ⟨⟨_, b2.alloc _, World.ownsRow_nil _ _ _ _, trivial⟩, ⟨((b0.alloc _).alloc _).alloc _, (b1.alloc _).alloc _, b3⟩, nmSt_nil, hB0⟩
    (fun x => { tmps := #[.string s, undef, .pointer (some ⟨w.heap.size, 0, none⟩), .pointer (some ⟨w.heap.size + 1, 0, none⟩), .pointer (some ⟨w.heap.size + 1 + 1, 0, none⟩), .string x, .string s, .func (.func 101) #[] #[.pointer (some ⟨w.heap.size + 1 + 1 + 1, 0, none⟩)], .string x, undef, undef, undef, undef, undef, undef, undef, undef, undef, undef, undef, undef, undef, undef, undef, undef], defers := [] }) ?assign ?body ?done ?stop
  case assign =>
    intro l x W K hK
    gi_wp2
    exact hK
  case body =>
    rintro l pre x W ⟨⟨v, hv, hrow, _⟩, ⟨r0, r1, rs⟩, hst, hB⟩ hlt
    obtain ⟨a, cap, rfl⟩ := ownsRow_len hrow
    have hle := nmSt_le hst
    have HST : Hid (nmSt pre = some pre.length) := hst
    have hcv := hv.cell
    have hc0 := r0.cell
    have hc1 := r1.cell
    have hf0 := r0.frozen
    have hf1 := r1.frozen
    have hsz := hB.size
    have hlt1 := rs.lt
    clear hst
    by_cases h2 : pre.length = 2
    · have e1 : ((pre.length : Int) == 2) = true := by simp; omega
      have HN : Hid (nmSt (pre ++ [x]) = none) := nmSt_full x HST.out h2
      clear h2
      gi_wp2
      refine ⟨trivial, ?_⟩
      gi_wp2
      exact ⟨((KeepsOthers.setCell _ _ _).trans (KeepsOthers.setCell _ _ _)).from _, ⟨rfl, HN.out⟩, ⟨(r0.set _).other (by omega) _, (r1.other (by omega) _).set _⟩, (hB.setCell (p := ⟨w.heap.size, 0, none⟩) (Nat.le_refl _) _).setCell (p := ⟨w.heap.size + 1, 0, none⟩) (by simp) _⟩
    · have e1 : ((pre.length : Int) == 2) = false := by simp; omega
      by_cases hx : wsB x = true
      · have HN : Hid (nmSt (pre ++ [x]) = some (pre ++ [x]).length) := nmSt_good x HST.out h2 hx
        clear h2
        gi_wp2_with (first | (refine ⟨trivial, ?_⟩; gi_at_call 82; refine (CallsIn.inRound l (callsIn_wide.2 (wordOrStar_any x _))).mono ?_; rintro e w' ⟨rfl, rfl⟩) | (gi_at_builtin; refine wpListIn_append_own _ rfl _ _ 25 rfl (w.heap.size + 1 + 1 + 1 + 1) 9 i0 (.string ByteArray.empty) 1 16 Tryz.underlying25 hi hz0 hz1 hz2 rfl (by decide) _ _ _ rfl (hrow.alloc _) ⟨_, 0, none⟩ 1 1 [.string x] rfl rfl (cell_one_new _ _ _) (by simp [Value.oneCell']) (by simp [maxLen]; omega) (by omega) (by simp; omega) ?_; intro v' w1 hown' hgrow _; obtain ⟨g', cap', rfl⟩ := ownsRow_succ hown'; obtain ⟨hv1, hv2, hr2, hk2, hb2, ho2⟩ := boxed_appended hv (by omega) (by omega) hrow hown' hgrow; have hcv1 := hv1.cell; have hfv1 := hv1.frozen))
        refine ⟨hk2.from _, ho2 _ (by omega) (by omega), ⟨_, hv2, by simpa using hr2, trivial⟩, ⟨?_, ?_, ?_⟩, HN.out, hB.trans (hb2.mono (by omega))⟩
        · exact (ho2 _ (by omega) (by omega)).trans r0
        · exact (ho2 _ (by omega) (by omega)).trans r1
        · exact (ho2 _ (by omega) (by omega)).trans rs
      · have hx' : wsB x = false := by simpa using hx
        have HN : Hid (nmSt (pre ++ [x]) = none) := nmSt_bad x HST.out hx'
        clear h2 hx
        gi_wp2_with (refine ⟨trivial, ?_⟩; gi_at_call 82; refine (CallsIn.inRound l (callsIn_wide.2 (wordOrStar_any x _))).mono ?_; rintro e w' ⟨rfl, rfl⟩)
        exact ⟨((KeepsOthers.setCell _ _ _).trans (KeepsOthers.setCell _ _ _)).from _, ⟨rfl, HN.out⟩, ⟨(r0.set _).other (by omega) _, (r1.other (by omega) _).set _⟩, (hB.setCell (p := ⟨w.heap.size, 0, none⟩) (Nat.le_refl _) _).setCell (p := ⟨w.heap.size + 1, 0, none⟩) (by simp) _⟩
  case done =>
    rintro D ys W hD hys ⟨⟨v, hv, hrow, _⟩, ⟨r0, r1, rs⟩, hst, hB⟩ hK
    subst hys
    obtain ⟨a, cap, rfl⟩ := ownsRow_len hrow
    have HNB : Hid (nmB (split s 47) = decide ((split s 47).length = 2)) := nmB_some hst
    have hcv := hv.cell
    have hc0 := r0.cell
    have hc1 := r1.cell
    have hf0 := r0.frozen
    have hf1 := r1.frozen
    clear hst
    by_cases h2 : (split s 47).length = 2
    · have e1 : (((split s 47).length : Int) != 2) = false := by simp; omega
      have HN : Hid (nmB (split s 47) = true) := by rw [HNB.out]; exact decide_eq_true h2
      clear h2
      gi_wp2
      have hKX : ((W.setCell ⟨w.heap.size, 0, none⟩ (.slice a (split s 47).length cap)).setCell ⟨w.heap.size + 1, 0, none⟩ (.bool true)).heap[D]? = some (.deferred (some [])) := (KeepsOthers.setCell _ _ _).same D _ ((KeepsOthers.setCell _ _ _).same D _ hK rfl) rfl
      have hc5 := cell_kept ((r0.set (.slice a (split s 47).length cap)).other (B' := w.heap.size + 1) (by omega) (.bool true)).cell (grownBy_putObj' _ D (.deferred none)) (fun r e => by cases e; exact ⟨_, hKX, rfl⟩)
      have hc6 := cell_kept ((r1.other (B' := w.heap.size) (by omega) (.slice a (split s 47).length cap)).set (.bool true)).cell (grownBy_putObj' _ D (.deferred none)) (fun r e => by cases e; exact ⟨_, hKX, rfl⟩)
      refine ⟨by simp, .inl ⟨_, _, rfl, run_takeDeferred hKX, ?_⟩⟩
      refine ⟨.tuple #[(.slice a (split s 47).length cap), .bool true], ?_, (.slice a (split s 47).length cap), by rw [HN.out], ?_, (((hB.setCell (p := ⟨w.heap.size, 0, none⟩) (Nat.le_refl _) _).setCell (p := ⟨w.heap.size + 1, 0, none⟩) (by simp) _).trans (belowK_b (w := w) (Nat.le_refl _) _ D _ _ (by simp at hD; omega) hKX rfl rfl))⟩
      · simp [results, Tryz.f59, go_sem, hc5, hc6]
      · rw [nmL_yes HN.out]; exact ownsRow_putObj (((ownsRow_base hrow (by omega)).kept (grownBy_setCell' _ _ _) (.inr (ownsRow_low hrow (by omega)).symm)).kept (grownBy_setCell' _ _ _) (.inr (ownsRow_low hrow (by omega)).symm)) _ hKX rfl
    · have e1 : (((split s 47).length : Int) != 2) = true := by simp; omega
      have HN : Hid (nmB (split s 47) = false) := by rw [HNB.out]; exact decide_eq_false h2
      clear h2
      gi_wp2
      have hKX : ((W.setCell ⟨w.heap.size, 0, none⟩ (.slice none 0 0)).setCell ⟨w.heap.size + 1, 0, none⟩ (.bool false)).heap[D]? = some (.deferred (some [])) := (KeepsOthers.setCell _ _ _).same D _ ((KeepsOthers.setCell _ _ _).same D _ hK rfl) rfl
      have hc5 := cell_kept ((r0.set (.slice none 0 0)).other (B' := w.heap.size + 1) (by omega) (.bool false)).cell (grownBy_putObj' _ D (.deferred none)) (fun r e => by cases e; exact ⟨_, hKX, rfl⟩)
      have hc6 := cell_kept ((r1.other (B' := w.heap.size) (by omega) (.slice none 0 0)).set (.bool false)).cell (grownBy_putObj' _ D (.deferred none)) (fun r e => by cases e; exact ⟨_, hKX, rfl⟩)
      refine ⟨by simp, .inl ⟨_, _, rfl, run_takeDeferred hKX, ?_⟩⟩
      refine ⟨.tuple #[(.slice none 0 0), .bool false], ?_, (.slice none 0 0), by rw [HN.out], ?_, (((hB.setCell (p := ⟨w.heap.size, 0, none⟩) (Nat.le_refl _) _).setCell (p := ⟨w.heap.size + 1, 0, none⟩) (by simp) _).trans (belowK_b (w := w) (Nat.le_refl _) _ D _ _ (by simp at hD; omega) hKX rfl rfl))⟩
      · simp [results, Tryz.f59, go_sem, hc5, hc6]
      · rw [nmL_no HN.out]; exact World.ownsRow_nil _ _ _ _
  case stop =>
    rintro D c pre W hD hpre ⟨⟨rfl, hst⟩, ⟨r0, r1⟩, hB⟩ hK
    have HN : Hid (nmB (split s 47) = false) := nmB_none (nmSt_pre hpre hst)
    clear hst
    gi_wp2
    have hKX : (W).heap[D]? = some (.deferred (some [])) := hK
    have hc5 := cell_kept (r0).cell (grownBy_putObj' _ D (.deferred none)) (fun r e => by cases e; exact ⟨_, hKX, rfl⟩)
    have hc6 := cell_kept (r1).cell (grownBy_putObj' _ D (.deferred none)) (fun r e => by cases e; exact ⟨_, hKX, rfl⟩)
    refine ⟨by simp, .inl ⟨_, _, rfl, run_takeDeferred hKX, ?_⟩⟩
    refine ⟨.tuple #[(.slice none 0 0), .bool false], ?_, (.slice none 0 0), by rw [HN.out], ?_, hB.trans (belowK_b (w := w) (Nat.le_refl _) W D _ _ (by simp at hD; omega) hKX rfl rfl)⟩
    · simp [results, Tryz.f59, go_sem, hc5, hc6]
    · rw [nmL_no HN.out]; exact World.ownsRow_nil _ _ _ _

end Go.Proofs.YtallpldgkkpikaaGreatDoor

namespace Go.Proofs.YtallpldgkkpikaaGreatDoor
open Go.RowKit Go.Shelf

theorem ret_int {k : IntKind} {a b : Int} (h : a = b) : Ending.returned (.int k a) = .returned (.int k b) := by rw [h]
/-- Behind a call that makes memory alone every old cell reads as it did. -/
theorem bcell {W w1 : World} (hb : Below W.heap.size W w1) : (∀ b o, b < W.heap.size → w1.cell? ⟨b, o, none⟩ = W.cell? ⟨b, o, none⟩) ∧ (∀ b o, b < W.heap.size → w1.frozen? ⟨b, o, none⟩ = W.frozen? ⟨b, o, none⟩) :=
  ⟨fun b o h => hb.cell (p := ⟨b, o, none⟩) h, fun b o h => hb.frozen (p := ⟨b, o, none⟩) h⟩
theorem below_one {w W w1 : World} (h : Below w.heap.size w W) (h1 : Below W.heap.size W w1) : Below w.heap.size w w1 := h.trans (h1.mono h.size)
theorem below_two {w W w1 w2 : World} (h : Below w.heap.size w W) (h1 : Below W.heap.size W w1) (h2 : Below w1.heap.size w1 w2) : Below w.heap.size w w2 := below_one (below_one h h1) h2
theorem ret_str {a b : ByteArray} (h : a = b) : Ending.returned (.string a) = .returned (.string b) := by rw [h]
theorem ret_strb {a b : ByteArray} {c d : Bool} (h : a = b) (h' : c = d) : Ending.returned (.tuple #[.string a, .bool c]) = .returned (.tuple #[.string b, .bool d]) := by rw [h, h']
theorem below_drew1 {W w1 : World} (h : Below W.heap.size W.drew w1) : Below W.heap.size W w1 := (Below.refl W.heap.size W).drew.trans h
theorem sum_mem {l : List Nat} {x : Nat} (h : x ∈ l) : x ≤ l.sum := by
  induction l with
  | nil => cases h
  | cons y l ih =>
    rw [List.sum_cons]
    rcases List.mem_cons.1 h with rfl | h
    · omega
    · have := ih h
      omega
/-- A row that the call owns is a slice: none, or one with an address. -/
theorem row_form {w : World} {base : Nat} {e : TypeId} {size n : Nat} {v : Value} {xs : List Value} (h : w.ownsRow base e size v n xs) : (v = .slice none 0 0 ∧ n = 0) ∨ ∃ g cap, v = .slice (some ⟨g, 0, none⟩) n cap ∧ base ≤ g ∧ n ≤ cap := by
  rcases h.2 with h | ⟨g, cap, cur, hv, hg, _, hn, _⟩
  · exact .inl h
  · exact .inr ⟨g, cap, hv, hg, hn⟩
theorem grown_below {w W w2 : World} {r : Option Nat} (h : w.grownBy W r) (hB : Below W.heap.size W w2) : w.grownBy w2 r :=
  ⟨hB.os.trans h.os, hB.tape.trans h.tape, hB.output.trans h.output, Nat.le_trans h.size hB.size, fun k hk hne => (hB.block k (Nat.lt_of_lt_of_le hk h.size)).trans (h.block k hk hne)⟩
theorem grown_two {w W w2 : World} {r : Option Nat} (h : w.grownBy W r) (h2 : W.grownBy w2 r) : w.grownBy w2 r :=
  ⟨h2.os.trans h.os, h2.tape.trans h.tape, h2.output.trans h.output, Nat.le_trans h.size h2.size, fun k hk hne => (h2.block k (Nat.lt_of_lt_of_le hk h.size) hne).trans (h.block k hk hne)⟩
theorem grown_self (w : World) (r : Option Nat) : w.grownBy w r := ⟨rfl, rfl, rfl, Nat.le_refl _, fun _ _ _ => rfl⟩
theorem kept_apart {w w' : World} {base : Nat} {e : TypeId} {size n : Nat} {v v2 : Value} {xs : List Value} (h : w.ownsRow base e size v n xs) (hg : w.grownBy w' v2.ownBlock) (ha : ∀ k, v.ownBlock = some k → v2.ownBlock = some k → False) : w'.ownsRow base e size v n xs := by
  cases hb : v.ownBlock with
  | none => exact h.kept hg (.inl hb)
  | some b => exact h.kept hg (.inr (fun e => ha b hb (e ▸ hb)))

end Go.Proofs.YtallpldgkkpikaaGreatDoor

namespace Go.Proofs.YtallpldgkkpikaaGreatDoor
open Go.RowKit Go.Shelf

/-- The decimal digits of a number, none of 0. -/
def digT (n : Nat) : ByteArray := if _h : n = 0 then ⟨#[]⟩ else digT (n / 10) ++ ⟨#[UInt8.ofNat (48 + n % 10)]⟩
termination_by n
decreasing_by omega
theorem digT_zero : digT 0 = ⟨#[]⟩ := by rw [digT]; rfl
theorem digT_pos {n : Nat} (h : 0 < n) : digT n = digT (n / 10) ++ ⟨#[UInt8.ofNat (48 + n % 10)]⟩ := by
  rw [digT, dif_neg (by omega)]
theorem digT_size (n : Nat) : (digT n).size ≤ n := by
  induction n using Nat.strongRecOn with
  | ind n ih =>
    by_cases h : n = 0
    · subst h
      rw [digT_zero]
      exact Nat.zero_le _
    · rw [digT_pos (by omega), ByteArray.size_append]
      have := ih (n / 10) (by omega)
      have h1 : (⟨#[UInt8.ofNat (48 + n % 10)]⟩ : ByteArray).size = 1 := rfl
      omega
theorem app_nil (x : ByteArray) : x ++ ⟨#[]⟩ = x := by
  apply ByteArray.ext
  simp [ByteArray.data_append]
def mkT (n : Nat) : ByteArray := if n = 0 then ⟨#[109, 48]⟩ else ⟨#[109]⟩ ++ digT n

theorem digit_conv (w : World) (m : Nat) : (convert 22 9 (.slice (some ⟨w.heap.size, 0, none⟩) 1 1)).run Tryz.prog (w.alloc (.cells #[.int .u8 (48 + (m : Int) % 10)] 5)) = .ok (.string ⟨#[UInt8.ofNat (48 + m % 10)]⟩) (w.alloc (.cells #[.int .u8 (48 + (m : Int) % 10)] 5)) := by
  refine run_convert_bytes_back (P := Tryz.prog) _ 22 9 5 ⟨w.heap.size, 0, none⟩ 1 [UInt8.ofNat (48 + m % 10)] Tryz.underlying22 Tryz.underlying5 Tryz.underlying9 ?_
  intro j hj
  match j, hj with
  | 0, _ =>
    simp [Addr.add]
    omega

end Go.Proofs.YtallpldgkkpikaaGreatDoor

namespace Go.Proofs.YtallpldgkkpikaaGreatDoor
open Go.RowKit Go.Shelf

/-- A slice whose elements have one cell each reads as these values. -/
def VS (w : World) (v : Value) (xs : List Value) : Prop :=
  (∃ a cap, v = .slice a 0 cap ∧ xs = []) ∨
  ∃ b off cap, v = .slice (some ⟨b, off, none⟩) xs.length cap ∧ b < w.heap.size ∧ xs.length ≤ cap ∧ ∀ i (h : i < xs.length), w.cell? ⟨b, off + i, none⟩ = some xs[i]
theorem VS.below {w w' : World} {v : Value} {xs : List Value} (h : VS w v xs) (hB : Below w.heap.size w w') : VS w' v xs := by
  rcases h with h | ⟨b, off, cap, hv, hb, hl, hc⟩
  · exact .inl h
  · exact .inr ⟨b, off, cap, hv, Nat.lt_of_lt_of_le hb hB.size, hl, fun k hk => (hB.cell (p := ⟨b, off + k, none⟩) hb).trans (hc k hk)⟩
theorem VS.len {w : World} {v : Value} {xs : List Value} (h : VS w v xs) : ∃ a cap, v = .slice a xs.length cap := by
  rcases h with ⟨a, cap, hv, rfl⟩ | ⟨b, off, cap, hv, _⟩
  · exact ⟨a, cap, hv⟩
  · exact ⟨_, cap, hv⟩
theorem VS.at {w : World} {a : Option Addr} {n cap : Nat} {xs : List Value} (h : VS w (.slice a n cap) xs) {i : Nat} (hi : i < xs.length) : ∃ b off, a = some ⟨b, off, none⟩ ∧ b < w.heap.size ∧ n ≤ cap ∧ w.cell? ⟨b, off + i, none⟩ = some xs[i] := by
  rcases h with ⟨_, _, _, rfl⟩ | ⟨b, off, cap, hv, hb, hl, hc⟩
  · simp at hi
  · cases hv
    exact ⟨b, off, rfl, hb, hl, hc i hi⟩
theorem VS.own {w : World} {base : Nat} {e : TypeId} {v : Value} {xs : List Value} (h : w.ownsRow base e 1 v xs.length xs) : VS w v xs := by
  rcases h.2 with ⟨rfl, h0⟩ | ⟨g, cap, cur, rfl, hg, hb, hle, _⟩
  · exact .inl ⟨none, 0, rfl, List.eq_nil_of_length_eq_zero h0⟩
  · refine .inr ⟨g, 0, cap, rfl, (Array.getElem?_eq_some_iff.1 hb).1, hle, fun k hk => ?_⟩
    have := h.cellAt k (by omega)
    rw [List.getElem?_eq_getElem hk] at this
    rw [Nat.zero_add]
    exact this

abbrev strs (ss : List ByteArray) : List Value := ss.map Value.string
theorem VS.ownS {w : World} {base : Nat} {e : TypeId} {v : Value} {ss : List ByteArray} (h : w.ownsRow base e 1 v ss.length (ss.map Value.string)) : VS w v (ss.map Value.string) :=
  VS.own (by rw [List.length_map]; exact h)
theorem VS.ownN {w : World} {base : Nat} {e : TypeId} {v : Value} {zs : List Int} (h : w.ownsRow base e 1 v zs.length (zs.map (Value.int .i64))) : VS w v (zs.map (Value.int .i64)) :=
  VS.own (by rw [List.length_map]; exact h)
abbrev nums (zs : List Int) : List Value := zs.map (Value.int .i64)
theorem strs_len (ss : List ByteArray) : (strs ss).length = ss.length := List.length_map _
theorem nums_len (zs : List Int) : (nums zs).length = zs.length := List.length_map _
theorem VS.str {w : World} {a : Option Addr} {n cap : Nat} {ss : List ByteArray} (h : VS w (.slice a n cap) (strs ss)) {i : Nat} (hi : i < ss.length) : ∃ b off, a = some ⟨b, off, none⟩ ∧ b < w.heap.size ∧ n ≤ cap ∧ w.cell? ⟨b, off + i, none⟩ = some (.string ss[i]) := by
  obtain ⟨b, off, h1, h2, h3, h4⟩ := h.at (i := i) (by rw [strs_len]; exact hi)
  exact ⟨b, off, h1, h2, h3, by rw [h4, List.getElem_map]⟩
theorem VS.num {w : World} {a : Option Addr} {n cap : Nat} {zs : List Int} (h : VS w (.slice a n cap) (nums zs)) {i : Nat} (hi : i < zs.length) : ∃ b off, a = some ⟨b, off, none⟩ ∧ b < w.heap.size ∧ n ≤ cap ∧ w.cell? ⟨b, off + i, none⟩ = some (.int .i64 zs[i]) := by
  obtain ⟨b, off, h1, h2, h3, h4⟩ := h.at (i := i) (by rw [nums_len]; exact hi)
  exact ⟨b, off, h1, h2, h3, by rw [h4, List.getElem_map]⟩
theorem VS.strLen {w : World} {v : Value} {ss : List ByteArray} (h : VS w v (strs ss)) : ∃ a cap, v = .slice a ss.length cap := by
  have := h.len
  rwa [strs_len] at this
theorem VS.numLen {w : World} {v : Value} {zs : List Int} (h : VS w v (nums zs)) : ∃ a cap, v = .slice a zs.length cap := by
  have := h.len
  rwa [nums_len] at this

set_option maxRecDepth 100000 in
open Go.Deep Go.ChangeShapes Go.WideShapes Go.Joins in
/-- A list of texts that comes in. -/
theorem openStS {H : Type} {enc : TypeId × Value → H} {W : World} {a : Option Addr} {n c : Nat} {d : DataW H} {p : List MemPlace} (h : DataW.Trod enc Tryz.prog W 0 (fun _ => true) true 25 (.slice a n c) d p) :
    ∃ ss : List ByteArray, VS W (.slice a n c) (strs ss) ∧ ss.length = n ∧ n ≤ maxLen ∧ ∀ s ∈ ss, s.size ≤ maxLen := by
  obtain ⟨fuel, hf⟩ := h
  have c2 : Tryz.prog.cellsOf 9 = 1 := by kernel_rfl
  rcases open_slice Tryz.underlying25 hf with ⟨hcs, _⟩ | ⟨x, len, cap, m, k, D, Pl, hcs, _, hl, hm, hmm, _, hx⟩
  · simp [Value.cells] at hcs
    obtain ⟨rfl, rfl, rfl⟩ := hcs
    exact ⟨[], .inl ⟨_, _, rfl, rfl⟩, rfl, Nat.zero_le _, fun r hr => by cases hr⟩
  · simp [Value.cells] at hcs
    obtain ⟨rfl, rfl, rfl⟩ := hcs
    have hlm : n ≤ m := by rw [hmm]; simpa using hl
    have each : ∀ i, i < n → ∃ r : ByteArray, W.cell? (x.add i) = some (.string r) ∧ r.size ≤ maxLen := by
      intro i hi
      obtain ⟨cs', h1, h2⟩ := hx i (by omega)
      rw [c2, Nat.mul_one] at h1
      obtain ⟨_, hlen, hcell⟩ := World.cells?_some h1
      obtain ⟨x0, f0, _, w0⟩ := DataW.trod_string Tryz.underlying9 h2
      subst f0
      have e0 := hcell 0 (by omega)
      rw [add_add] at e0
      exact ⟨x0, by simpa using e0, w0⟩
    have hin : Inhabited ByteArray := ⟨ByteArray.empty⟩
    obtain ⟨q, hq⟩ := choose_lt each
    by_cases h0 : n = 0
    · subst h0
      exact ⟨[], .inl ⟨_, _, rfl, rfl⟩, rfl, Nat.zero_le _, fun r hr => by cases hr⟩
    · obtain ⟨b, off, spot⟩ := x
      have hs : spot = none := by simpa [Addr.add] using World.cell?_spot (hq 0 (by omega)).1
      subst hs
      have hlt : b < W.heap.size := by
        have := (hq 0 (by omega)).1
        rw [Addr.add_lit] at this
        by_cases hb : b < W.heap.size
        · exact hb
        · simp only [World.cell?] at this
          rw [Array.getElem?_eq_none (by omega)] at this
          cases this
      refine ⟨(List.range n).map q, .inr ⟨b, off, c, by simp [strs], hlt, by simpa [strs] using hl, fun k hk => ?_⟩, by simp, by omega, ?_⟩
      · have hk' : k < n := by simpa [strs] using hk
        have := (hq k hk').1
        simp only [Addr.add_lit] at this
        simpa [strs] using this
      · intro r hr
        obtain ⟨i, hi, rfl⟩ := List.mem_map.1 hr
        exact (hq i (List.mem_range.1 hi)).2

set_option maxRecDepth 100000 in
open Go.Deep Go.ChangeShapes Go.WideShapes Go.Joins in
/-- A list of numbers that comes in. -/
theorem openInS {H : Type} {enc : TypeId × Value → H} {W : World} {a : Option Addr} {n c : Nat} {d : DataW H} {p : List MemPlace} (h : DataW.Trod enc Tryz.prog W 0 (fun _ => true) true 24 (.slice a n c) d p) :
    ∃ zs : List Int, VS W (.slice a n c) (nums zs) ∧ zs.length = n ∧ n ≤ maxLen := by
  obtain ⟨fuel, hf⟩ := h
  have c2 : Tryz.prog.cellsOf 3 = 1 := by kernel_rfl
  rcases open_slice Tryz.underlying24 hf with ⟨hcs, _⟩ | ⟨x, len, cap, m, k, D, Pl, hcs, _, hl, hm, hmm, _, hx⟩
  · simp [Value.cells] at hcs
    obtain ⟨rfl, rfl, rfl⟩ := hcs
    exact ⟨[], .inl ⟨_, _, rfl, rfl⟩, rfl, Nat.zero_le _⟩
  · simp [Value.cells] at hcs
    obtain ⟨rfl, rfl, rfl⟩ := hcs
    have hlm : n ≤ m := by rw [hmm]; simpa using hl
    have each : ∀ i, i < n → ∃ r : Int, W.cell? (x.add i) = some (.int .i64 r) := by
      intro i hi
      obtain ⟨cs', h1, h2⟩ := hx i (by omega)
      rw [c2, Nat.mul_one] at h1
      obtain ⟨_, hlen, hcell⟩ := World.cells?_some h1
      obtain ⟨x0, f0, _, _⟩ := DataW.trod_int Tryz.underlying3 h2
      subst f0
      have e0 := hcell 0 (by omega)
      rw [add_add] at e0
      exact ⟨x0, by simpa using e0⟩
    obtain ⟨q, hq⟩ := choose_lt each
    by_cases h0 : n = 0
    · subst h0
      exact ⟨[], .inl ⟨_, _, rfl, rfl⟩, rfl, Nat.zero_le _⟩
    · obtain ⟨b, off, spot⟩ := x
      have hs : spot = none := by simpa [Addr.add] using World.cell?_spot (hq 0 (by omega))
      subst hs
      have hlt : b < W.heap.size := by
        have := hq 0 (by omega)
        rw [Addr.add_lit] at this
        by_cases hb : b < W.heap.size
        · exact hb
        · simp only [World.cell?] at this
          rw [Array.getElem?_eq_none (by omega)] at this
          cases this
      refine ⟨(List.range n).map q, .inr ⟨b, off, c, by simp [nums], hlt, by simpa [nums] using hl, fun k hk => ?_⟩, by simp, by omega⟩
      have hk' : k < n := by simpa [nums] using hk
      have := hq k hk'
      simp only [Addr.add_lit] at this
      simpa [nums] using this

theorem take_one {α : Type} (xs : List α) (k : Nat) (a : α) (h : k < xs.length) : (xs.set k a).take (k + 1) = xs.take k ++ [a] := by
  rw [List.take_succ_eq_append_getElem (by simpa using h), List.take_set_of_le (Nat.le_refl _)]
  simp
theorem below_drewn {w W : World} (h : Below w.heap.size w W) (n : Nat) : Below w.heap.size w (W.drewN n) :=
  h.trans ⟨rfl, rfl, rfl, Nat.le_refl _, fun _ _ => rfl⟩
theorem infoString : (Tryz.prog.info? 9).map (fun i => (i.zero, i.size, i.bytes)) = some (some (.string ByteArray.empty), 1, 16) := by kernel_rfl
theorem infoInt : (Tryz.prog.info? 3).map (fun i => (i.zero, i.size, i.bytes)) = some (some (.int .i64 0), 1, 8) := by kernel_rfl

/-- Two lists of texts are alike. -/
def ssTo (xs ys : List ByteArray) (k : Nat) : Bool := ((xs.zip ys).take k).all (fun q => q.1.toList == q.2.toList)
def ssS (xs ys : List ByteArray) : Bool := decide (xs.length = ys.length) && (xs.zip ys).all (fun q => q.1.toList == q.2.toList)
theorem ssTo_zero (xs ys : List ByteArray) : ssTo xs ys 0 = true := by simp [ssTo]
theorem ssTo_succ {xs ys : List ByteArray} {k : Nat} (h : k < xs.length) (h' : k < ys.length) : ssTo xs ys (k + 1) = (ssTo xs ys k && (xs[k].toList == ys[k].toList)) := by
  unfold ssTo
  rw [List.take_succ_eq_append_getElem (by rw [List.length_zip]; omega), List.all_append]
  simp
theorem ss_end {xs ys : List ByteArray} (h : xs.length = ys.length) : ssTo xs ys xs.length = ssS xs ys := by
  unfold ssTo ssS
  rw [List.take_of_length_le (by rw [List.length_zip]; omega), decide_eq_true h, Bool.true_and]
theorem ssS_refl (xs : List ByteArray) : ssS xs xs = true := by
  unfold ssS
  rw [decide_eq_true rfl, Bool.true_and, List.all_eq_true]
  intro x hx
  obtain ⟨i, hi, he⟩ := List.getElem_of_mem hx
  rw [List.getElem_zip] at he
  rw [← he]
  simp

/-- What is left of a budget behind a list of texts. -/
def tzTo (ss : List ByteArray) (n : Nat) : Nat := ((ss.take n).map ByteArray.size).sum
def tzAll (ss : List ByteArray) : Nat := ss.length + tzTo ss ss.length
theorem tzTo_zero (ss : List ByteArray) : tzTo ss 0 = 0 := by simp [tzTo]
theorem tzTo_succ {ss : List ByteArray} {n : Nat} (h : n < ss.length) : tzTo ss (n + 1) = tzTo ss n + ss[n].size := by
  unfold tzTo
  rw [List.take_succ_eq_append_getElem h, List.map_append, List.sum_append]
  simp
theorem tzTo_le (ss : List ByteArray) (n : Nat) : tzTo ss n ≤ tzTo ss ss.length := by
  unfold tzTo
  rw [List.take_length]
  conv => rhs; rw [← List.take_append_drop n ss, List.map_append, List.sum_append]
  omega
theorem tz_mem {ss : List ByteArray} {s : ByteArray} (h : s ∈ ss) : s.size ≤ tzTo ss ss.length := by
  unfold tzTo
  rw [List.take_length]
  exact sum_mem (List.mem_map.2 ⟨s, h, rfl⟩)
def leftT (n : Int) (ss : List ByteArray) : Int := if (tzAll ss : Int) ≤ n then n - tzAll ss else -1

def mkS (k n : Nat) : List ByteArray := (List.range n).map (fun i => mkT (k + i))
theorem mkS_len (k n : Nat) : (mkS k n).length = n := by simp [mkS]
theorem mkS_succ (k n : Nat) : mkS k (n + 1) = mkS k n ++ [mkT (k + n)] := by
  unfold mkS
  rw [List.range_succ, List.map_append]
  rfl
theorem mkS_at {k n i : Nat} (h : i < (mkS k n).length) : (mkS k n)[i] = mkT (k + i) := by simp [mkS]

end Go.Proofs.YtallpldgkkpikaaGreatDoor

namespace Go.Proofs.YtallpldgkkpikaaGreatDoor

/-- Where the byte stands first. -/
def fI (s : ByteArray) (b : UInt8) : Option Nat := s.data.toList.findIdx? (fun x => x == b)
theorem fI_lt {s : ByteArray} {b : UInt8} {i : Nat} (h : fI s b = some i) : i < s.size := by
  unfold fI at h
  have := List.findIdx?_eq_some_iff_getElem.1 h
  obtain ⟨h1, _⟩ := this
  simpa using h1
theorem fI_at {s : ByteArray} {b : UInt8} {i : Nat} (h : fI s b = some i) : s[i]'(fI_lt h) = b := by
  have := List.findIdx?_eq_some_iff_getElem.1 h
  obtain ⟨h1, h2, _⟩ := this
  simp at h2
  exact h2
theorem fI_ahead {s : ByteArray} {b : UInt8} {i : Nat} (h : fI s b = some i) (j : Nat) (hj : j < i) (hs : j < s.size) : s[j] ≠ b := by
  have := List.findIdx?_eq_some_iff_getElem.1 h
  obtain ⟨h1, _, h3⟩ := this
  have := h3 j hj
  simp at this
  exact this
theorem fI_none {s : ByteArray} {b : UInt8} (h : fI s b = none) (j : Nat) (hs : j < s.size) : s[j] ≠ b := by
  unfold fI at h
  rw [List.findIdx?_eq_none_iff] at h
  intro e
  have := h s[j] (by
    have : s.data.toList[j]'(by simpa using hs) = s[j] := by simp; rfl
    rw [← this]
    exact List.getElem_mem _)
  rw [e] at this
  simp at this
theorem idx_fI : ∀ (l : List UInt8) (b : UInt8), Lib.indexByte l b = match l.findIdx? (fun x => x == b) with
    | some i => (i : Int)
    | none => -1
  | [], _ => rfl
  | x :: l, b => by
    have ih := idx_fI l b
    unfold Lib.indexByte
    rw [List.findIdx?_cons]
    by_cases hx : (x == b) = true
    · simp [hx]
    · rw [if_neg hx, if_neg hx]
      cases h : l.findIdx? (fun x => x == b) with
      | none => rw [h] at ih; rw [ih]; rfl
      | some i =>
        rw [h] at ih
        rw [ih]
        have : ((i : Int) == -1) = false := by
          rw [beq_eq_false_iff_ne]
          omega
        simp [this]
theorem index_some {s : ByteArray} {b : UInt8} {i : Nat} (h : fI s b = some i) : Lib.indexByte s.data.toList b = i := by
  unfold fI at h
  rw [idx_fI, h]
theorem index_none {s : ByteArray} {b : UInt8} (h : fI s b = none) : Lib.indexByte s.data.toList b = -1 := by
  unfold fI at h
  rw [idx_fI, h]
theorem sp_none (s : ByteArray) (b : UInt8) : ∀ i, i ≤ s.size → (∀ j (_ : j < i) (hs : j < s.size), s[j] ≠ b) → spP s b i = ([], 0)
  | 0, _, _ => rfl
  | i + 1, hi, h => by
    rw [sp_miss s b i (by omega) (h i (by omega) (by omega))]
    exact sp_none s b i (by omega) (fun j hj hs => h j (by omega) hs)
theorem split_none {s : ByteArray} {b : UInt8} (h : fI s b = none) : split s b = [s] := by
  have := sp_none s b s.size (Nat.le_refl _) (fun j _ hs => fI_none h j hs)
  rw [split_end]
  unfold spL spA
  rw [this]
  simp
theorem sp_shift {s : ByteArray} {b : UInt8} {i : Nat} (h : fI s b = some i) : ∀ k, k ≤ (s.extract (i + 1) s.size).size + 1 →
    spP s b (i + 1 + k) = (s.extract 0 i :: (spP (s.extract (i + 1) s.size) b k).1, i + 1 + (spP (s.extract (i + 1) s.size) b k).2)
  | 0, _ => by
    have h0 := sp_none s b i (Nat.le_of_lt (fI_lt h)) (fun j hj hs => fI_ahead h j hj hs)
    have hl := spL_hit s b i (fI_lt h) (fI_at h)
    have ha := spA_hit s b i (fI_lt h) (fI_at h)
    unfold spL spA at hl ha
    rw [h0] at hl
    refine Prod.ext ?_ ?_
    · rw [Nat.add_zero, hl]; rfl
    · rw [Nat.add_zero, ha]; rfl
  | k + 1, hk => by
    have ih := sp_shift h k (by omega)
    have hlt := fI_lt h
    have hsz : (s.extract (i + 1) s.size).size = s.size - (i + 1) := by rw [ByteArray.size_extract]; omega
    have hc : (i + 1 + k = s.size ∨ s.data.toList[i + 1 + k]? = some b) ↔ (k = (s.extract (i + 1) s.size).size ∨ (s.extract (i + 1) s.size).data.toList[k]? = some b) := by
      have e : (s.extract (i + 1) s.size).data.toList[k]? = s.data.toList[i + 1 + k]? := by
        rw [ByteArray.data_extract, Array.toList_extract, List.extract_eq_take_drop, List.getElem?_take]
        rw [hsz] at hk
        by_cases hks : k < s.size - (i + 1)
        · rw [if_pos hks, List.getElem?_drop]
        · rw [if_neg hks, List.getElem?_eq_none (by simp; omega)]
      rw [e, hsz]
      constructor
      · rintro (e | e)
        · exact .inl (by omega)
        · exact .inr e
      · rintro (e | e)
        · exact .inl (by omega)
        · exact .inr e
    rw [show i + 1 + (k + 1) = (i + 1 + k) + 1 from rfl, spP, spP]
    by_cases hh : k = (s.extract (i + 1) s.size).size ∨ (s.extract (i + 1) s.size).data.toList[k]? = some b
    · rw [if_pos hh, if_pos (hc.2 hh), ih]
      refine Prod.ext ?_ rfl
      have hx : s.extract (i + 1 + (spP (s.extract (i + 1) s.size) b k).2) (i + 1 + k) = (s.extract (i + 1) s.size).extract (spP (s.extract (i + 1) s.size) b k).2 k := by
        rw [ByteArray.extract_extract]
        congr 1
        omega
      simp only [hx, List.cons_append]
    · rw [if_neg hh, if_neg (fun h' => hh (hc.1 h')), ih]
theorem split_some {s : ByteArray} {b : UInt8} {i : Nat} (h : fI s b = some i) : split s b = s.extract 0 i :: split (s.extract (i + 1) s.size) b := by
  have hlt := fI_lt h
  have hsz : (s.extract (i + 1) s.size).size = s.size - (i + 1) := by rw [ByteArray.size_extract]; omega
  have := sp_shift h ((s.extract (i + 1) s.size).size + 1) (Nat.le_refl _)
  rw [show i + 1 + ((s.extract (i + 1) s.size).size + 1) = s.size + 1 by omega] at this
  unfold split spL
  rw [this]
/-- The part ahead, the part behind, and whether the byte is there. -/
def cutA (s : ByteArray) (b : UInt8) : ByteArray := match fI s b with
  | some i => s.extract 0 i
  | none => s
def cutB (s : ByteArray) (b : UInt8) : ByteArray := match fI s b with
  | some i => s.extract (i + 1) s.size
  | none => ⟨#[]⟩
def cutF (s : ByteArray) (b : UInt8) : Bool := (fI s b).isSome
theorem cut_some {s : ByteArray} {b : UInt8} {i : Nat} (h : fI s b = some i) : cutA s b = s.extract 0 i ∧ cutB s b = s.extract (i + 1) s.size ∧ cutF s b = true := by
  unfold cutA cutB cutF
  rw [h]
  exact ⟨rfl, rfl, rfl⟩
theorem cut_none {s : ByteArray} {b : UInt8} (h : fI s b = none) : cutA s b = s ∧ cutB s b = ⟨#[]⟩ ∧ cutF s b = false := by
  unfold cutA cutB cutF
  rw [h]
  exact ⟨rfl, rfl, rfl⟩
theorem split_head (s : ByteArray) (b : UInt8) : ∃ r, split s b = cutA s b :: r := by
  cases h : fI s b with
  | none => exact ⟨[], by rw [split_none h, (cut_none h).1]⟩
  | some i => exact ⟨_, by rw [split_some h, (cut_some h).1]⟩
theorem data_parts (s : ByteArray) (i : Nat) (h : i < s.size) : s.data.toList = (s.extract 0 i).data.toList ++ s[i] :: (s.extract (i + 1) s.size).data.toList := by
  have h0 : i < s.data.toList.length := by simpa using h
  have h1 : (s.extract 0 i).data.toList = s.data.toList.take i := by
    rw [ByteArray.data_extract, Array.toList_extract, List.extract_eq_take_drop]
    simp
  have h2 : (s.extract (i + 1) s.size).data.toList = s.data.toList.drop (i + 1) := by
    rw [ByteArray.data_extract, Array.toList_extract, List.extract_eq_take_drop]
    rw [List.take_of_length_le (by simp)]
  have h3 : s[i] = s.data.toList[i] := by simp; rfl
  rw [h1, h2, h3, ← List.drop_eq_getElem_cons h0, List.take_append_drop]

end Go.Proofs.YtallpldgkkpikaaGreatDoor

namespace Go.Proofs.YtallpldgkkpikaaGreatDoor

theorem bytes_same {a b : ByteArray} (h : a.data.toList = b.data.toList) : a = b := ByteArray.ext (Array.toList_inj.1 h)
theorem split_ne (s : ByteArray) (b : UInt8) : ∃ x r, split s b = x :: r := by
  obtain ⟨r, h⟩ := split_head s b
  exact ⟨_, r, h⟩
theorem empty_of {s : ByteArray} (h : s.toList.isEmpty = true) : s = ⟨#[]⟩ := by
  rw [toList_data] at h
  apply ByteArray.ext
  have : s.data.toList = [] := by simpa using h
  exact Array.toList_inj.1 (by rw [this])
/-- The library's cutting at one byte is ours. -/
theorem index_of_one (s : ByteArray) (c : UInt8) : Lib.indexB s ⟨#[c]⟩ = Lib.indexByte s.data.toList c := by
  show Lib.index s.data.toList [c] = _
  exact Lib.index_one _ _
theorem split_lib (c : UInt8) : ∀ (n : Nat) (s : ByteArray), s.size ≤ n → Lib.splitB ⟨#[c]⟩ 0 (Lib.countB s ⟨#[c]⟩) s = split s c := by
  intro n
  induction n with
  | zero =>
    intro s hs
    have hf : fI s c = none := by
      have : s.data.toList = [] := List.eq_nil_of_length_eq_zero (by rw [show s.data.toList.length = s.size by simp]; omega)
      unfold fI
      rw [this]
      rfl
    rw [Lib.splitB_miss _ _ _ _ (by rw [index_of_one, index_none hf]), split_none hf]
  | succ n ih =>
    intro s hs
    cases hf : fI s c with
    | none => rw [Lib.splitB_miss _ _ _ _ (by rw [index_of_one, index_none hf]), split_none hf]
    | some i =>
      have hlt := fI_lt hf
      have hi : Lib.indexB s ⟨#[c]⟩ = i := by rw [index_of_one, index_some hf]
      have hc := Lib.countB_hit s ⟨#[c]⟩ i (show 1 ≤ (⟨#[c]⟩ : ByteArray).size from Nat.le_refl _) hi
      rw [hc, Nat.add_comm 1, Lib.splitB_hit _ _ _ _ i hi, split_some hf]
      have hsz : (⟨#[c]⟩ : ByteArray).size = 1 := rfl
      rw [hsz, Nat.add_zero, ih (s.extract (i + 1) s.size) (by rw [ByteArray.size_extract]; omega)]
theorem no_ws {ch : UInt8} (hw : wordCh ch = false) (h42 : ch ≠ 42) {x : ByteArray} (h : wsB x = true) : ch ∉ x.data.toList := by
  unfold wsB at h
  rw [Bool.or_eq_true] at h
  rcases h with h | h
  · have h1 : x.data.toList = [42] := by simpa [starB, toList_data] using h
    rw [h1, List.mem_singleton]
    exact h42
  · unfold wordB wordTo at h
    rw [Bool.and_eq_true] at h
    intro hm
    have h2 := h.1
    rw [List.take_of_length_le (by simp)] at h2
    have := List.all_eq_true.1 h2 ch hm
    rw [hw] at this
    cases this
theorem no_star2 {ch : UInt8} (h42 : ch ≠ 42) {x : ByteArray} (h : star2B x = true) : ch ∉ x.data.toList := by
  have h1 : x.data.toList = [42, 42] := by simpa [star2B, toList_data] using h
  rw [h1]
  simp [h42]
theorem no_split {ch : UInt8} (h47 : ch ≠ 47) : ∀ (n : Nat) (s : ByteArray), s.size ≤ n → (∀ x ∈ split s 47, ch ∉ x.data.toList) → ch ∉ s.data.toList := by
  intro n
  induction n with
  | zero =>
    intro s hs h
    have : s.data.toList = [] := List.eq_nil_of_length_eq_zero (by rw [show s.data.toList.length = s.size by simp]; omega)
    rw [this]
    exact List.not_mem_nil
  | succ n ih =>
    intro s hs h
    cases hf : fI s 47 with
    | none =>
      rw [split_none hf] at h
      exact h s (by simp)
    | some i =>
      rw [split_some hf] at h
      have hlt := fI_lt hf
      have h1 := h _ (List.mem_cons_self)
      have h2 := ih (s.extract (i + 1) s.size) (by rw [ByteArray.size_extract]; omega) (fun x hx => h x (List.mem_cons_of_mem _ hx))
      rw [data_parts s i hlt, fI_at hf, List.mem_append, List.mem_cons]
      rintro (h3 | h3 | h3)
      · exact h1 h3
      · exact h47 h3
      · exact h2 h3
theorem no_pt {ch : UInt8} (hw : wordCh ch = false) (h42 : ch ≠ 42) : ∀ l : List ByteArray, ptOk l = true → ∀ x ∈ l, ch ∉ x.data.toList
  | [], _, x, hx => by cases hx
  | y :: r, h, x, hx => by
    unfold ptOk at h
    split at h
    · rename_i h2
      have hr : r = [] := by simpa using h
      subst hr
      rw [List.mem_singleton] at hx
      subst hx
      exact no_star2 h42 h2
    · rw [Bool.and_eq_true] at h
      rw [List.mem_cons] at hx
      rcases hx with rfl | hx
      · exact no_ws hw h42 h.1
      · exact no_pt hw h42 r h.2 x hx
theorem no_path {ch : UInt8} (hw : wordCh ch = false) (h42 : ch ≠ 42) (h47 : ch ≠ 47) {s : ByteArray} (h : ptBs s = true) : ch ∉ s.data.toList := by
  cases h0 : slashB s
  · cases h1 : headB s
    · have hp : pathPs s = none := by
        unfold pathPs
        rw [h0, h1]
        rfl
      unfold ptBs at h
      rw [hp] at h
      cases h
    · unfold ptBs at h
      rw [pathPs_head h0 h1] at h
      simp only [ptB_eq, Bool.and_eq_true] at h
      have h2 := no_split h47 _ (s.extract 1 s.size) (Nat.le_refl _) (no_pt hw h42 _ h.1)
      have hs : 0 < s.size := by
        rcases Nat.eq_zero_or_pos s.size with hz | hz
        · have : s.data.toList = [] := List.eq_nil_of_length_eq_zero (by rw [show s.data.toList.length = s.size by simp]; omega)
          unfold headB at h1
          rw [this] at h1
          cases h1
        · exact hz
      have hd := data_parts s 0 hs
      have h4 : (s.extract 0 0).data.toList = [] := by
        rw [ByteArray.data_extract, Array.toList_extract, List.extract_eq_take_drop]
        simp
      rw [h4, List.nil_append] at hd
      unfold headB at h1
      rw [hd] at h1
      have h5 : s[0] = 47 := by simpa using h1
      rw [hd, h5, List.mem_cons]
      rintro (h6 | h6)
      · exact h47 h6
      · exact h2 h6
  · have h1 : s.data.toList = [47] := by simpa [slashB, toList_data] using h0
    rw [h1, List.mem_singleton]
    exact h47
theorem no_name {ch : UInt8} (hw : wordCh ch = false) (h42 : ch ≠ 42) (h47 : ch ≠ 47) {s : ByteArray} (h : nmB (split s 47) = true) : ch ∉ s.data.toList := by
  rw [nmB_eq, Bool.and_eq_true, List.all_eq_true] at h
  exact no_split h47 _ s (Nat.le_refl _) (fun x hx => no_ws hw h42 (h.2 x hx))
/-! A text parted at a byte that its first part has not. -/
theorem fI_parts {ch : UInt8} : ∀ (a b : List UInt8), ch ∉ a → (a ++ ch :: b).findIdx? (fun x => x == ch) = some a.length
  | [], b, _ => by rw [List.nil_append, List.findIdx?_cons]; simp
  | x :: a, b, h => by
    have hx : (x == ch) = false := by
      rw [beq_eq_false_iff_ne]
      rintro rfl
      exact h List.mem_cons_self
    rw [List.cons_append, List.findIdx?_cons, hx, fI_parts a b (fun hm => h (List.mem_cons_of_mem _ hm))]
    simp
theorem bytes_of (s : ByteArray) : s = ⟨s.data.toList.toArray⟩ := by
  apply ByteArray.ext
  simp
theorem ext_front (a b : List UInt8) : (⟨(a ++ b).toArray⟩ : ByteArray).extract 0 a.length = ⟨a.toArray⟩ := by
  apply bytes_same
  rw [ByteArray.data_extract, Array.toList_extract, List.extract_eq_take_drop]
  simp
theorem ext_back (a b : List UInt8) (ch : UInt8) : (⟨(a ++ ch :: b).toArray⟩ : ByteArray).extract (a.length + 1) (⟨(a ++ ch :: b).toArray⟩ : ByteArray).size = ⟨b.toArray⟩ := by
  apply bytes_same
  rw [ByteArray.data_extract, Array.toList_extract, List.extract_eq_take_drop]
  have h1 : (⟨(a ++ ch :: b).toArray⟩ : ByteArray).size = a.length + 1 + b.length := by
    show (a ++ ch :: b).toArray.size = _
    simp
    omega
  rw [h1, List.take_of_length_le (by simp)]
  show (a ++ ch :: b).drop (a.length + 1) = b
  rw [← List.drop_drop, List.drop_left]
  rfl
theorem split_parts {ch : UInt8} (a b : List UInt8) (h : ch ∉ a) : split ⟨(a ++ ch :: b).toArray⟩ ch = ⟨a.toArray⟩ :: split ⟨b.toArray⟩ ch := by
  have hf : fI ⟨(a ++ ch :: b).toArray⟩ ch = some a.length := fI_parts a b h
  rw [split_some hf, ext_front, ext_back]
theorem split_one {ch : UInt8} (a : List UInt8) (h : ch ∉ a) : split ⟨a.toArray⟩ ch = [⟨a.toArray⟩] := by
  refine split_none ?_
  unfold fI
  rw [List.findIdx?_eq_none_iff]
  intro x hx
  rw [beq_eq_false_iff_ne]
  rintro rfl
  exact h (by simpa using hx)


end Go.Proofs.YtallpldgkkpikaaGreatDoor

namespace Go.Proofs.YtallpldgkkpikaaGreatDoor

/-- A link. -/
structure Lk where
  who : ByteArray
  to : ByteArray
  se : Int
  fr : Int
  un : Int
def seB (n : Int) : Bool := decide (1 ≤ n ∧ n ≤ 100000)
def tmB (n : Int) : Bool := decide (0 ≤ n ∧ n ≤ 100000)
def nmOk (s : ByteArray) : Bool := gnB (split s 47)
def Lk.good (k : Lk) : Bool := nmOk k.who && (nmOk k.to && (seB k.se && (tmB k.fr && (tmB k.un && decide (k.fr ≤ k.un)))))
def Lk.size (k : Lk) : Nat := k.who.size + k.to.size
theorem Lk.good_iff (k : Lk) : k.good = true ↔ nmOk k.who = true ∧ nmOk k.to = true ∧ (1 ≤ k.se ∧ k.se ≤ 100000) ∧ (0 ≤ k.fr ∧ k.fr ≤ 100000) ∧ (0 ≤ k.un ∧ k.un ≤ 100000) ∧ k.fr ≤ k.un := by
  unfold Lk.good seB tmB
  simp only [Bool.and_eq_true, decide_eq_true_eq]

/-- The i-th link is good, and follows the one ahead. -/
def lkAt (ks : List Lk) (i : Nat) : Bool := match ks[i]? with
  | some k => k.good && (i == 0 || (match ks[i - 1]? with
    | some p => p.to.toList == k.who.toList
    | none => false))
  | none => false
def tkTo (ks : List Lk) (n : Nat) : Bool := (List.range n).all (lkAt ks)
def tkB (ks : List Lk) : Bool := tkTo ks ks.length && decide (1 ≤ ks.length ∧ ks.length ≤ 6)
theorem tkTo_zero (ks : List Lk) : tkTo ks 0 = true := rfl
theorem tkTo_succ (ks : List Lk) (n : Nat) : tkTo ks (n + 1) = (tkTo ks n && lkAt ks n) := by
  unfold tkTo
  rw [List.range_succ, List.all_append]
  simp
theorem lkAt_zero {ks : List Lk} (h : 0 < ks.length) : lkAt ks 0 = ks[0].good := by
  unfold lkAt
  rw [List.getElem?_eq_getElem h]
  simp
theorem lkAt_succ {ks : List Lk} {n : Nat} (h : n + 1 < ks.length) : lkAt ks (n + 1) = (ks[n + 1].good && (ks[n].to.toList == ks[n + 1].who.toList)) := by
  unfold lkAt
  rw [List.getElem?_eq_getElem h, Nat.add_sub_cancel, List.getElem?_eq_getElem (by omega : n < ks.length)]
  simp
theorem tk_bad {ks : List Lk} {n : Nat} (h : n < ks.length) (hb : lkAt ks n = false) : tkB ks = false := by
  have : tkTo ks ks.length = false := by
    unfold tkTo
    rw [List.all_eq_false]
    exact ⟨n, List.mem_range.2 h, by rw [hb]; exact Bool.false_ne_true⟩
  unfold tkB
  rw [this]
  rfl
theorem tk_len {ks : List Lk} (h : ¬ (1 ≤ ks.length ∧ ks.length ≤ 6)) : tkB ks = false := by
  unfold tkB
  rw [decide_eq_false h, Bool.and_false]
theorem tk_end {ks : List Lk} (h : tkTo ks ks.length = true) : tkB ks = decide (1 ≤ ks.length ∧ ks.length ≤ 6) := by
  unfold tkB
  rw [h, Bool.true_and]
theorem tkB_len {ks : List Lk} (h : tkB ks = true) : 1 ≤ ks.length ∧ ks.length ≤ 6 := by
  unfold tkB at h
  rw [Bool.and_eq_true, decide_eq_true_eq] at h
  exact h.2
theorem tkTo_good {ks : List Lk} {n : Nat} (h : tkTo ks n = true) (i : Nat) (hi : i < n) (hl : i < ks.length) : ks[i].good = true := by
  unfold tkTo at h
  have := List.all_eq_true.1 h i (List.mem_range.2 hi)
  cases i with
  | zero => rwa [lkAt_zero hl] at this
  | succ i =>
    rw [lkAt_succ hl, Bool.and_eq_true] at this
    exact this.1
theorem tkB_good {ks : List Lk} (h : tkB ks = true) (k : Lk) (hk : k ∈ ks) : k.good = true := by
  unfold tkB at h
  rw [Bool.and_eq_true] at h
  obtain ⟨i, hi, rfl⟩ := List.getElem_of_mem hk
  exact tkTo_good h.1 i hi hi

/-- A number's text. -/
def numT (n : Int) : ByteArray := ⟨(Lib.itoa n).toArray⟩
theorem dd_dig (u : Nat) : ∀ b ∈ Lib.decDigits u, 48 ≤ b.toNat ∧ b.toNat ≤ 57 := by
  induction u using Nat.strongRecOn with
  | _ u ih =>
    intro b hb
    have hd : ∀ d, d < 10 → (UInt8.ofNat (48 + d)).toNat = 48 + d := fun d hd => by
      rw [UInt8.toNat_ofNat']
      omega
    by_cases h : u < 10
    · rw [Lib.decDigits, dif_pos h, List.mem_singleton] at hb
      rw [hb, hd u h]
      omega
    · rw [Lib.decDigits, dif_neg h, List.mem_append, List.mem_singleton] at hb
      rcases hb with hb | hb
      · exact ih (u / 10) (by omega) b hb
      · rw [hb, hd _ (Nat.mod_lt _ (by decide))]
        omega
theorem itoa_pos {n : Int} (h : 0 ≤ n) : Lib.itoa n = Lib.decDigits n.toNat := by
  unfold Lib.itoa
  rw [if_neg (by omega)]
theorem no_num {ch : UInt8} (h : ¬ (48 ≤ ch.toNat ∧ ch.toNat ≤ 57)) {n : Int} (hn : 0 ≤ n) : ch ∉ Lib.itoa n := by
  rw [itoa_pos hn]
  exact fun hm => h (dd_dig _ _ hm)
theorem decFrom_snoc : ∀ (l : List UInt8) (acc : Nat) (b : UInt8), Lib.decFrom acc (l ++ [b]) = match Lib.decFrom acc l with
    | some n => (match Lib.digitVal b with
      | some d => some (n * 10 + d)
      | none => none)
    | none => none
  | [], acc, b => by
    simp only [List.nil_append, Lib.decFrom]
    cases Lib.digitVal b <;> rfl
  | x :: l, acc, b => by
    simp only [List.cons_append, Lib.decFrom]
    cases Lib.digitVal x with
    | none => rfl
    | some d => exact decFrom_snoc l _ b
theorem digit_of (d : Nat) (h : d < 10) : Lib.digitVal (UInt8.ofNat (48 + d)) = some d := by
  have : (UInt8.ofNat (48 + d)).toNat = 48 + d := by rw [UInt8.toNat_ofNat']; omega
  unfold Lib.digitVal
  rw [this, if_pos (by omega)]
  congr 1
  omega
theorem dec_back (u : Nat) : Lib.decFrom 0 (Lib.decDigits u) = some u := by
  induction u using Nat.strongRecOn with
  | _ u ih =>
    by_cases h : u < 10
    · rw [Lib.decDigits, dif_pos h]
      simp only [Lib.decFrom, digit_of u h]
      simp
    · rw [Lib.decDigits, dif_neg h, decFrom_snoc, ih (u / 10) (by omega), digit_of _ (Nat.mod_lt _ (by decide))]
      simp only
      congr 1
      omega
theorem dd_head (u : Nat) (h : 0 < u) : (Lib.decDigits u).head? ≠ some 48 := by
  induction u using Nat.strongRecOn with
  | _ u ih =>
    by_cases h1 : u < 10
    · rw [Lib.decDigits, dif_pos h1]
      intro e
      have e1 : UInt8.ofNat (48 + u) = 48 := by simpa using e
      have : (UInt8.ofNat (48 + u)).toNat = 48 + u := by rw [UInt8.toNat_ofNat']; omega
      rw [e1] at this
      have e2 : (48 : UInt8).toNat = 48 := rfl
      omega
    · rw [Lib.decDigits, dif_neg h1, List.head?_append]
      have h2 := ih (u / 10) (by omega) (by omega)
      cases h3 : (Lib.decDigits (u / 10)).head? with
      | none =>
        have : Lib.decDigits (u / 10) = [] := List.head?_eq_none_iff.1 h3
        have h4 := Lib.decDigits_length (u / 10)
        rw [this] at h4
        have := Lib.nDigits_pos (u / 10)
        simp at h4
        omega
      | some x =>
        rw [h3] at h2
        simpa using h2
theorem dd_len6 {u : Nat} (h : u < 1000000) : 1 ≤ (Lib.decDigits u).length ∧ (Lib.decDigits u).length ≤ 6 := by
  rw [Lib.decDigits_length]
  refine ⟨Lib.nDigits_pos u, ?_⟩
  rcases Nat.lt_or_ge 6 (Lib.nDigits u) with h1 | h1
  · exfalso
    have e : ∀ k, k ≤ 5 → 10 ^ k ≤ u → u < 10 ^ (k + 1) → False := fun k hk a b => by
      have := Lib.nDigits_unique k u a b
      omega
    by_cases c0 : u < 10
    · rw [Lib.nDigits_small c0] at h1
      omega
    · by_cases c1 : u < 100
      · exact e 1 (by omega) (by omega) (by omega)
      · by_cases c2 : u < 1000
        · exact e 2 (by omega) (by omega) (by omega)
        · by_cases c3 : u < 10000
          · exact e 3 (by omega) (by omega) (by omega)
          · by_cases c4 : u < 100000
            · exact e 4 (by omega) (by omega) (by omega)
            · have := Lib.nDigits_unique 5 u (by omega) (by omega)
              omega
  · exact h1
theorem itoa_len6 {n : Int} (h0 : 0 ≤ n) (h : n ≤ 100000) : 1 ≤ (Lib.itoa n).length ∧ (Lib.itoa n).length ≤ 6 := by
  rw [itoa_pos h0]
  exact dd_len6 (by omega)
theorem numT_size (n : Int) : (numT n).size = (Lib.itoa n).length := by
  unfold numT
  show (Lib.itoa n).toArray.size = _
  simp

/-- A number as the specification reads it. -/
def numR (s : ByteArray) : Int :=
  if decide (1 ≤ s.size ∧ s.size ≤ 6) && !(s.data.toList.head? == some 48 && decide (1 < s.size)) then (match Lib.decFrom 0 s.data.toList with
    | some n => (n : Int)
    | none => -1) else -1
/-- A number as the program reads it. -/
def numI (s : ByteArray) : Option Int := match Lib.atoiAll s.data.toList with
  | .ok n => if (Lib.itoa n == s.data.toList) = true then some n else none
  | _ => none
theorem numR_back {n : Int} (h0 : 0 ≤ n) (h : n ≤ 100000) : numR (numT n) = n := by
  obtain ⟨l1, l6⟩ := itoa_len6 h0 h
  have hd : (numT n).data.toList = Lib.decDigits n.toNat := by
    unfold numT
    rw [itoa_pos h0]
  unfold numR
  rw [numT_size, hd, dec_back, decide_eq_true ⟨l1, l6⟩]
  have hz : ((Lib.decDigits n.toNat).head? == some 48 && decide (1 < (Lib.itoa n).length)) = false := by
    by_cases hn : 0 < n.toNat
    · have : ((Lib.decDigits n.toNat).head? == some 48) = false := by
        rw [beq_eq_false_iff_ne]
        exact dd_head _ hn
      rw [this]
      rfl
    · have e : n.toNat = 0 := by omega
      rw [itoa_pos h0, e, Lib.decDigits_one (by decide)]
      decide
  rw [hz]
  simp
  omega
theorem atoi_itoa {n : Int} (h0 : 0 ≤ n) (h : n ≤ 100000) : Lib.atoi (Lib.itoa n) = some n := by
  have hp := itoa_pos h0
  obtain ⟨l1, l6⟩ := itoa_len6 h0 h
  rw [hp] at *
  cases hd : Lib.decDigits n.toNat with
  | nil => rw [hd] at l1; simp at l1
  | cons b r =>
    have hb := dd_dig n.toNat b (by rw [hd]; exact List.mem_cons_self)
    have h1 := dec_back n.toNat
    rw [hd] at h1
    unfold Lib.atoi
    have n1 : (b == 45) = false := by
      rw [beq_eq_false_iff_ne]
      rintro rfl
      exact absurd hb.1 (by decide)
    have n2 : (b == 43) = false := by
      rw [beq_eq_false_iff_ne]
      rintro rfl
      exact absurd hb.1 (by decide)
    simp only [n1, n2, if_false, Lib.decNat, List.isEmpty_cons, Bool.false_eq_true, h1, Option.map_some]
    congr 1
    omega
theorem numI_back {n : Int} (h0 : 0 ≤ n) (h : n ≤ 100000) : numI (numT n) = some n := by
  obtain ⟨l1, l6⟩ := itoa_len6 h0 h
  have hd : (numT n).data.toList = Lib.itoa n := rfl
  unfold numI
  rw [hd, Lib.atoiAll_short _ (by omega), atoi_itoa h0 h]
  simp [Lib.NumEnd.ofOption]
theorem numI_text {s : ByteArray} {n : Int} (h : numI s = some n) : numT n = s := by
  unfold numI at h
  split at h
  · split at h
    · rename_i m _ he
      cases h
      exact bytes_same (by simpa [numT] using he)
    · cases h
  · cases h

/-- A link's text. -/
def Lk.text (k : Lk) : ByteArray := k.who ++ ⟨#[32]⟩ ++ k.to ++ ⟨#[32]⟩ ++ numT k.se ++ ⟨#[32]⟩ ++ numT k.fr ++ ⟨#[32]⟩ ++ numT k.un ++ ⟨#[59]⟩
def Lk.body (k : Lk) : List UInt8 := k.who.data.toList ++ 32 :: (k.to.data.toList ++ 32 :: (Lib.itoa k.se ++ 32 :: (Lib.itoa k.fr ++ 32 :: Lib.itoa k.un)))
theorem Lk.text_list (k : Lk) : k.text.data.toList = k.body ++ [59] := by simp [Lk.text, Lk.body, numT]
def tkL (ks : List Lk) : List UInt8 := ks.flatMap (fun k => k.text.data.toList)
/-- A token's text. -/
def tkT (ks : List Lk) : ByteArray := ⟨(tkL ks).toArray⟩
theorem tkT_nil : tkT [] = ⟨#[]⟩ := rfl
theorem tkT_snoc (ks : List Lk) (k : Lk) : tkT (ks ++ [k]) = tkT ks ++ k.text := by
  apply bytes_same
  simp [tkT, tkL]
theorem tkT_succ {ks : List Lk} {n : Nat} (h : n < ks.length) : tkT (ks.take (n + 1)) = tkT (ks.take n) ++ ks[n].text := by
  rw [List.take_succ_eq_append_getElem h, tkT_snoc]
theorem tkL_cons (k : Lk) (ks : List Lk) : tkL (k :: ks) = k.body ++ 59 :: tkL ks := by
  unfold tkL
  rw [List.flatMap_cons, Lk.text_list]
  simp
theorem nm_of {s : ByteArray} (h : nmOk s = true) : nmB (split s 47) = true := by
  unfold nmOk gnB at h
  rw [Bool.and_eq_true] at h
  rw [nmB_eq, h.1, Bool.true_and, List.all_eq_true]
  intro x hx
  have := List.all_eq_true.1 h.2 x hx
  unfold wsB
  rw [this, Bool.or_true]
theorem body_split {k : Lk} (h : k.good = true) : split ⟨k.body.toArray⟩ 32 = [k.who, k.to, numT k.se, numT k.fr, numT k.un] := by
  obtain ⟨h1, h2, h3, h4, h5, _⟩ := (Lk.good_iff k).1 h
  unfold Lk.body
  rw [split_parts _ _ (no_name (by decide) (by decide) (by decide) (nm_of h1)), split_parts _ _ (no_name (by decide) (by decide) (by decide) (nm_of h2)), split_parts _ _ (no_num (by decide) (by omega)), split_parts _ _ (no_num (by decide) (by omega)), split_one _ (no_num (by decide) (by omega)), ← bytes_of, ← bytes_of]
  rfl
theorem body_end {k : Lk} (h : k.good = true) : (59 : UInt8) ∉ k.body := by
  obtain ⟨h1, h2, h3, h4, h5, _⟩ := (Lk.good_iff k).1 h
  unfold Lk.body
  have a1 := no_name (ch := 59) (by decide) (by decide) (by decide) (nm_of h1)
  have a2 := no_name (ch := 59) (by decide) (by decide) (by decide) (nm_of h2)
  have a3 := no_num (ch := 59) (by decide) (show 0 ≤ k.se by omega)
  have a4 := no_num (ch := 59) (by decide) (show 0 ≤ k.fr by omega)
  have a5 := no_num (ch := 59) (by decide) (show 0 ≤ k.un by omega)
  simp only [List.mem_append, List.mem_cons, not_or]
  exact ⟨a1, by decide, a2, by decide, a3, by decide, a4, by decide, a5⟩
theorem tk_split (ks : List Lk) (h : ∀ k ∈ ks, k.good = true) : split (tkT ks) 59 = ks.map (fun k => (⟨k.body.toArray⟩ : ByteArray)) ++ [⟨#[]⟩] := by
  induction ks with
  | nil => exact split_none rfl
  | cons k ks ih =>
    unfold tkT
    rw [tkL_cons, split_parts _ _ (body_end (h k List.mem_cons_self))]
    have := ih (fun x hx => h x (List.mem_cons_of_mem _ hx))
    unfold tkT at this
    rw [this]
    rfl

/-- A link read from its text, its numbers by f. -/
def rdLk (f : ByteArray → Option Int) (p : ByteArray) : Option Lk := match split p 32 with
  | [a, b, c, d, e] => (match f c, f d, f e with
    | some x, some y, some z => some ⟨a, b, x, y, z⟩
    | _, _, _ => none)
  | _ => none
theorem rdLk_five {f : ByteArray → Option Int} {p a b c d e : ByteArray} (h : split p 32 = [a, b, c, d, e]) : rdLk f p = (match f c, f d, f e with
    | some x, some y, some z => some ⟨a, b, x, y, z⟩
    | _, _, _ => none) := by
  unfold rdLk
  rw [h]
theorem five {l : List ByteArray} (h : l.length = 5) : ∃ a b c d e, l = [a, b, c, d, e] := by
  match l, h with
  | [a, b, c, d, e], _ => exact ⟨a, b, c, d, e, rfl⟩
theorem rdLk_other {f : ByteArray → Option Int} {p : ByteArray} (h : (split p 32).length ≠ 5) : rdLk f p = none := by
  unfold rdLk
  split
  · rename_i h1
    rw [h1] at h
    exact absurd rfl h
  · rfl
theorem rdLk_back {f : ByteArray → Option Int} (hf : ∀ n : Int, 0 ≤ n → n ≤ 100000 → f (numT n) = some n) {k : Lk} (h : k.good = true) : rdLk f ⟨k.body.toArray⟩ = some k := by
  obtain ⟨h1, h2, h3, h4, h5, _⟩ := (Lk.good_iff k).1 h
  rw [rdLk_five (body_split h), hf _ (by omega) (by omega), hf _ (by omega) (by omega), hf _ (by omega) (by omega)]

/-- The links of some texts. -/
def rdAll : List ByteArray → Option (List Lk)
  | [] => some []
  | x :: r => match rdLk (fun s => some (numR s)) x, rdAll r with
    | some k, some ks => some (k :: ks)
    | _, _ => none
theorem rdAll_cons (x : ByteArray) (r : List ByteArray) : rdAll (x :: r) = (match rdLk (fun s => some (numR s)) x, rdAll r with
    | some k, some ks => some (k :: ks)
    | _, _ => none) := rfl
theorem rdAll_snoc (l : List ByteArray) (x : ByteArray) : rdAll (l ++ [x]) = match rdAll l, rdLk (fun s => some (numR s)) x with
    | some ks, some k => some (ks ++ [k])
    | _, _ => none := by
  induction l with
  | nil =>
    simp only [List.nil_append, rdAll]
    cases rdLk (fun s => some (numR s)) x <;> rfl
  | cons y l ih =>
    simp only [List.cons_append, rdAll]
    rw [ih]
    cases rdLk (fun s => some (numR s)) y with
    | none => simp
    | some k =>
      cases rdAll l with
      | none => simp
      | some ks => cases rdLk (fun s => some (numR s)) x <;> simp
theorem rdAll_pre {p l : List ByteArray} (h : p <+: l) (hp : rdAll p = none) : rdAll l = none := by
  obtain ⟨t, rfl⟩ := h
  induction p with
  | nil => cases hp
  | cons x p ih =>
    rw [List.cons_append]
    rw [rdAll_cons] at hp ⊢
    cases h1 : rdLk (fun s => some (numR s)) x with
    | none => rfl
    | some k =>
      rw [h1] at hp
      cases h2 : rdAll p with
      | none => rw [ih h2]
      | some ks =>
        rw [h2] at hp
        cases hp
theorem rdAll_back (ks : List Lk) (h : ∀ k ∈ ks, k.good = true) : rdAll (ks.map (fun k => (⟨k.body.toArray⟩ : ByteArray))) = some ks := by
  induction ks with
  | nil => rfl
  | cons k ks ih =>
    rw [List.map_cons]
    unfold rdAll
    rw [rdLk_back (fun n h0 h1 => by rw [numR_back h0 h1]) (h k List.mem_cons_self), ih (fun x hx => h x (List.mem_cons_of_mem _ hx))]
/-- A token as the specification reads it. -/
def rdSp (s : ByteArray) : List Lk × Bool := match rdAll (split s 59).dropLast with
  | some ks => if (tkB ks && ((tkT ks).toList == s.toList)) = true then (ks, true) else ([], false)
  | none => ([], false)
theorem rdSp_back {ks : List Lk} (h : tkB ks = true) : rdSp (tkT ks) = (ks, true) := by
  unfold rdSp
  rw [tk_split ks (tkB_good h), List.dropLast_concat, rdAll_back ks (tkB_good h)]
  simp only
  rw [h, if_pos (by simp)]
theorem rdSp_sound {s : ByteArray} (h : (rdSp s).2 = true) : tkB (rdSp s).1 = true ∧ tkT (rdSp s).1 = s := by
  unfold rdSp at *
  split at h
  · split at h
    · rename_i ks _ hc
      rw [if_pos hc]
      rw [Bool.and_eq_true] at hc
      refine ⟨hc.1, bytes_same ?_⟩
      have := hc.2
      rw [toList_data, toList_data] at this
      simpa using this
    · cases h
  · cases h
theorem rdSp_no {s : ByteArray} (h : (rdSp s).2 = false) : rdSp s = ([], false) := by
  unfold rdSp at *
  split at h
  · split at h
    · cases h
    · rename_i hc
      rw [if_neg hc]
  · rfl

/-- The links of a text, one by one, as the program reads them. -/
def rdIL : List ByteArray → List Lk → Option (List Lk)
  | [], _ => none
  | [x], acc => if x.toList.isEmpty = true then some acc else none
  | x :: y :: r, acc => match rdLk numI x with
    | some k => if acc.length = 6 then none else rdIL (y :: r) (acc ++ [k])
    | none => none
theorem rdIL_end {s : ByteArray} {acc : List Lk} (h : s.toList.isEmpty = true) : rdIL (split s 59) acc = some acc := by
  rw [empty_of h]
  have : split ⟨#[]⟩ 59 = [⟨#[]⟩] := split_none rfl
  rw [this]
  unfold rdIL
  rw [if_pos (by rw [toList_data]; rfl)]
theorem rdIL_open {s : ByteArray} {acc : List Lk} (h : s.toList.isEmpty = false) (hf : fI s 59 = none) : rdIL (split s 59) acc = none := by
  rw [split_none hf]
  unfold rdIL
  rw [h]
  rfl
theorem rdIL_cut {s : ByteArray} {i : Nat} {acc : List Lk} (hf : fI s 59 = some i) : rdIL (split s 59) acc = (match rdLk numI (s.extract 0 i) with
    | some k => if acc.length = 6 then none else rdIL (split (s.extract (i + 1) s.size) 59) (acc ++ [k])
    | none => none) := by
  rw [split_some hf]
  obtain ⟨x, r, h⟩ := split_ne (s.extract (i + 1) s.size) 59
  rw [h]
  rfl
/-- A token as the program reads it. -/
def rdIm (s : ByteArray) : List Lk × Bool := match rdIL (split s 59) [] with
  | some ks => if tkB ks = true then (ks, true) else ([], false)
  | none => ([], false)
theorem rdIL_back : ∀ (ks acc : List Lk), (∀ k ∈ ks, k.good = true) → acc.length + ks.length ≤ 6 → rdIL (ks.map (fun k => (⟨k.body.toArray⟩ : ByteArray)) ++ [⟨#[]⟩]) acc = some (acc ++ ks)
  | [], acc, _, _ => by
    simp only [List.map_nil, List.nil_append, List.append_nil]
    unfold rdIL
    rw [if_pos (by rw [toList_data]; rfl)]
  | k :: ks, acc, h, hl => by
    simp only [List.length_cons] at hl
    have ih := rdIL_back ks (acc ++ [k]) (fun x hx => h x (List.mem_cons_of_mem _ hx)) (by simp; omega)
    have e : rdIL ((k :: ks).map (fun k => (⟨k.body.toArray⟩ : ByteArray)) ++ [⟨#[]⟩]) acc = (match rdLk numI ⟨k.body.toArray⟩ with
      | some k => if acc.length = 6 then none else rdIL (ks.map (fun k => (⟨k.body.toArray⟩ : ByteArray)) ++ [⟨#[]⟩]) (acc ++ [k])
      | none => none) := by
      cases ks <;> rfl
    rw [e, rdLk_back (fun n h0 h1 => numI_back h0 h1) (h k List.mem_cons_self)]
    simp only
    rw [if_neg (by omega), ih]
    simp
/-- What was parted, put together again. -/
def joinL (c : UInt8) : List ByteArray → List UInt8
  | [] => []
  | [x] => x.data.toList
  | x :: y :: r => x.data.toList ++ c :: joinL c (y :: r)
theorem join_split (c : UInt8) : ∀ (n : Nat) (s : ByteArray), s.size ≤ n → joinL c (split s c) = s.data.toList := by
  intro n
  induction n with
  | zero =>
    intro s hs
    have hf : fI s c = none := by
      have : s.data.toList = [] := List.eq_nil_of_length_eq_zero (by rw [show s.data.toList.length = s.size by simp]; omega)
      unfold fI
      rw [this]
      rfl
    rw [split_none hf]
    rfl
  | succ n ih =>
    intro s hs
    cases hf : fI s c with
    | none => rw [split_none hf]; rfl
    | some i =>
      have hlt := fI_lt hf
      rw [split_some hf]
      have := ih (s.extract (i + 1) s.size) (by rw [ByteArray.size_extract]; omega)
      obtain ⟨x, r, h⟩ := split_ne (s.extract (i + 1) s.size) c
      rw [h] at this ⊢
      unfold joinL
      rw [this, data_parts s i hlt, fI_at hf]
theorem rdLk_text {p : ByteArray} {k : Lk} (h : rdLk numI p = some k) : p.data.toList = k.body := by
  have hj := join_split 32 _ p (Nat.le_refl _)
  by_cases hl : (split p 32).length = 5
  · obtain ⟨a, b, c, d, e, he⟩ := five hl
    rw [rdLk_five he] at h
    split at h
    · rename_i x y z h1 h2 h3
      cases h
      rw [he] at hj
      have t1 := numI_text h1
      have t2 := numI_text h2
      have t3 := numI_text h3
      rw [← hj]
      unfold Lk.body
      simp only [joinL, ← t1, ← t2, ← t3, numT]
    · cases h
  · rw [rdLk_other hl] at h
    cases h
theorem rdIL_sound : ∀ (n : Nat) (s : ByteArray) (acc ks : List Lk), s.size ≤ n → rdIL (split s 59) acc = some ks → ∃ l, ks = acc ++ l ∧ tkL l = s.data.toList := by
  intro n
  induction n with
  | zero =>
    intro s acc ks hs h
    have he : s.toList.isEmpty = true := by rw [size_toList]; exact decide_eq_true (by omega)
    rw [rdIL_end he] at h
    cases h
    refine ⟨[], by simp, ?_⟩
    rw [toList_data] at he
    have : s.data.toList = [] := by simpa using he
    rw [this]
    rfl
  | succ n ih =>
    intro s acc ks hs h
    cases he : s.toList.isEmpty with
    | true =>
      rw [rdIL_end he] at h
      cases h
      refine ⟨[], by simp, ?_⟩
      rw [toList_data] at he
      have : s.data.toList = [] := by simpa using he
      rw [this]
      rfl
    | false =>
      cases hf : fI s 59 with
      | none =>
        rw [rdIL_open he hf] at h
        cases h
      | some i =>
        have hlt := fI_lt hf
        rw [rdIL_cut hf] at h
        split at h
        · rename_i k hk
          split at h
          · cases h
          · obtain ⟨l, rfl, hl⟩ := ih (s.extract (i + 1) s.size) _ _ (by rw [ByteArray.size_extract]; omega) h
            refine ⟨k :: l, by simp, ?_⟩
            rw [tkL_cons, ← rdLk_text hk, hl, data_parts s i hlt, fI_at hf]
        · cases h
theorem rdIm_back {ks : List Lk} (h : tkB ks = true) : rdIm (tkT ks) = (ks, true) := by
  have hl := tkB_len h
  unfold rdIm
  rw [tk_split ks (tkB_good h), rdIL_back ks [] (tkB_good h) (by simp; omega)]
  simp only [List.nil_append]
  rw [if_pos h]
theorem rdIm_sound {s : ByteArray} (h : (rdIm s).2 = true) : tkB (rdIm s).1 = true ∧ tkT (rdIm s).1 = s := by
  unfold rdIm at *
  split at h
  · rename_i ks hk
    split at h
    · rename_i hc
      rw [if_pos hc]
      obtain ⟨l, e, hl⟩ := rdIL_sound _ _ _ _ (Nat.le_refl _) hk
      refine ⟨hc, bytes_same ?_⟩
      rw [List.nil_append] at e
      rw [e]
      exact hl
    · cases h
  · cases h
theorem rdIm_no {s : ByteArray} (h : (rdIm s).2 = false) : rdIm s = ([], false) := by
  unfold rdIm at *
  split at h
  · split at h
    · cases h
    · rename_i hc
      rw [if_neg hc]
  · rfl
/-- Both read alike. -/
theorem rd_alike (s : ByteArray) : rdIm s = rdSp s := by
  cases h : (rdSp s).2 with
  | true =>
    obtain ⟨h1, h2⟩ := rdSp_sound h
    have h3 := rdIm_back h1
    have h4 := rdSp_back h1
    rw [h2] at h3 h4
    rw [h3, ← h4]
  | false =>
    cases h' : (rdIm s).2 with
    | true =>
      obtain ⟨h1, h2⟩ := rdIm_sound h'
      have h4 := rdSp_back h1
      rw [h2] at h4
      rw [h4] at h
      cases h
    | false => rw [rdSp_no h, rdIm_no h']

end Go.Proofs.YtallpldgkkpikaaGreatDoor

namespace Go.Proofs.YtallpldgkkpikaaGreatDoor

/-- A small whole number as a float's bits. -/
def fN (n : Nat) : Nat := floatOfInt .f64 (n : Int)
theorem shl_pow (n k : Nat) : n <<< k = n * 2 ^ k := Nat.shiftLeft_eq n k
theorem kept_eq (n : Nat) : Ieee.Toward.even.cut false n 0 = n := by
  unfold Ieee.Toward.cut
  have h : n % 1 = 0 := Nat.mod_one n
  simp [h]
theorem fN_pos {n : Nat} (h0 : 0 < n) (h : n ≤ 1000000) : fN n = (n.log2 + 1022) * 2 ^ 52 + n * 2 ^ (52 - n.log2) ∧ n.log2 ≤ 20 ∧ 2 ^ 52 ≤ n * 2 ^ (52 - n.log2) ∧ n * 2 ^ (52 - n.log2) < 2 ^ 53 := by
  have hl : n.log2 < 20 := (Nat.log2_lt (by omega)).2 (by omega)
  have a1 : 2 ^ n.log2 ≤ n := Nat.log2_self_le (by omega)
  have a2 : n < 2 ^ (n.log2 + 1) := Nat.lt_log2_self
  have b1 : 2 ^ 52 ≤ n * 2 ^ (52 - n.log2) := by
    have : 2 ^ n.log2 * 2 ^ (52 - n.log2) ≤ n * 2 ^ (52 - n.log2) := Nat.mul_le_mul_right _ a1
    rwa [← Nat.pow_add, show n.log2 + (52 - n.log2) = 52 by omega] at this
  have b2 : n * 2 ^ (52 - n.log2) < 2 ^ 53 := by
    have : n * 2 ^ (52 - n.log2) < 2 ^ (n.log2 + 1) * 2 ^ (52 - n.log2) := Nat.mul_lt_mul_of_pos_right a2 (Nat.two_pow_pos _)
    rwa [← Nat.pow_add, show n.log2 + 1 + (52 - n.log2) = 53 by omega] at this
  refine ⟨?_, by omega, b1, b2⟩
  unfold fN floatOfInt FloatKind.nearest FloatKind.encode Ieee.Format.write
  have hn : decide ((n : Int) < 0) = false := by simp
  simp only [hn, Int.natAbs_natCast]
  unfold Ieee.Format.nearest
  rw [if_neg (by omega)]
  have hlast : max (0 + (n.log2 : Int) - (FloatKind.f64.format.fractionBits : Int)) FloatKind.f64.format.leastPlace = (n.log2 : Int) - 52 := by
    have e1 : (FloatKind.f64.format.fractionBits : Int) = 52 := rfl
    have e2 : FloatKind.f64.format.leastPlace = -1074 := by decide
    rw [e1, e2]
    omega
  simp only [hlast]
  have e3 : (0 - ((n.log2 : Int) - 52)).toNat = 52 - n.log2 := by omega
  have e4 : ((n.log2 : Int) - 52 - 0).toNat = 0 := by omega
  rw [e3, e4, kept_eq, shl_pow]
  have e2 : FloatKind.f64.format.leastPlace = -1074 := by decide
  have e5 : FloatKind.f64.format.binade = 2 ^ 52 := by decide
  have e6 : FloatKind.f64.format.infRung = 2047 * 2 ^ 52 := by decide
  rw [e2, e5, e6, show ((n.log2 : Int) - 52 - -1074).toNat = n.log2 + 1022 by omega]
  unfold Ieee.Format.word
  rw [if_neg (by decide), Nat.min_eq_left]
  omega
theorem read_fN {n : Nat} (h0 : 0 < n) (h : n ≤ 1000000) : FloatKind.f64.format.read (fN n) = .number false (n * 2 ^ (52 - n.log2)) ((n.log2 : Int) - 52) := by
  obtain ⟨e, hl, b1, b2⟩ := fN_pos h0 h
  rw [e]
  generalize hk : n * 2 ^ (52 - n.log2) = k at *
  generalize n.log2 = L at *
  have e2 : FloatKind.f64.format.leastPlace = -1074 := by decide
  have e5 : FloatKind.f64.format.binade = 2 ^ 52 := by decide
  have e6 : FloatKind.f64.format.infRung = 2047 * 2 ^ 52 := by decide
  have e7 : FloatKind.f64.format.signWeight = 2 ^ 63 := by decide
  unfold Ieee.Format.read
  rw [e2, e5, e6, e7]
  have d1 : ((L + 1022) * 2 ^ 52 + k) / 2 ^ 63 = 0 := Nat.div_eq_of_lt (by omega)
  have d2 : ((L + 1022) * 2 ^ 52 + k) % 2 ^ 63 = (L + 1022) * 2 ^ 52 + k := Nat.mod_eq_of_lt (by omega)
  have d3 : ((L + 1022) * 2 ^ 52 + k) % 2 ^ 52 = k - 2 ^ 52 := by omega
  have d4 : ((L + 1022) * 2 ^ 52 + k) / 2 ^ 52 = L + 1023 := by omega
  simp only [d1, d2, d3, d4]
  rw [if_neg (by omega), if_pos (by omega)]
  have d5 : 2 ^ 52 + (k - 2 ^ 52) = k := by omega
  have d6 : (-1074 : Int) + ((L + 1023 - 1 : Nat) : Int) = (L : Int) - 52 := by omega
  rw [d5, d6]
  rfl
theorem read_fN0 : FloatKind.f64.format.read (fN 0) = .number false 0 (-1074) := by decide
theorem z_mul (p : Nat) : 0 = 0 * 2 ^ p := (Nat.zero_mul _).symm
theorem read_any (n : Nat) (h : n ≤ 1000000) : ∃ (k : Nat) (p : Nat), FloatKind.f64.format.read (fN n) = .number false k (-(p : Int)) ∧ k = n * 2 ^ p := by
  by_cases h0 : 0 < n
  · have hl : n.log2 < 20 := (Nat.log2_lt (by omega)).2 (by omega)
    refine ⟨_, 52 - n.log2, ?_, rfl⟩
    rw [read_fN h0 h]
    congr 1
    omega
  · have : n = 0 := by omega
    subst this
    exact ⟨0, 1074, read_fN0, z_mul 1074⟩
theorem cmp_mul (a b p : Nat) : compare ((a * 2 ^ p : Nat) : Int) ((b * 2 ^ p : Nat) : Int) = compare a b := by
  have hp : 0 < 2 ^ p := Nat.two_pow_pos p
  have hA : ∀ x y : Nat, ((x * 2 ^ p : Nat) : Int) < ((y * 2 ^ p : Nat) : Int) ↔ x < y := fun x y => by
    rw [Int.ofNat_lt]
    exact Nat.mul_lt_mul_right hp
  rcases Nat.lt_trichotomy a b with h | h | h
  · rw [Nat.compare_eq_lt.2 h]
    simp only [compare, compareOfLessAndEq]
    rw [if_pos ((hA a b).2 h)]
  · subst h
    rw [Nat.compare_eq_eq.2 rfl]
    simp [compare, compareOfLessAndEq]
  · rw [Nat.compare_eq_gt.2 h]
    simp only [compare, compareOfLessAndEq]
    rw [if_neg (by rw [hA]; omega), if_neg (by intro e; have := (hA b a).2 h; omega)]
theorem order_fN (a b : Nat) (ha : a ≤ 1000000) (hb : b ≤ 1000000) : FloatKind.f64.format.order (fN a) (fN b) = some (compare a b) := by
  obtain ⟨k, p, e, rfl⟩ := read_any a ha
  obtain ⟨l, q, e', rfl⟩ := read_any b hb
  unfold Ieee.Format.order
  rw [e, e']
  unfold Ieee.Datum.order
  simp only [Ieee.signed]
  have h1 : ∃ m : Nat, min (-(p : Int)) (-(q : Int)) = -(m : Int) ∧ p ≤ m ∧ q ≤ m := by
    refine ⟨max p q, by omega, by omega, by omega⟩
  obtain ⟨m, hm, h2, h3⟩ := h1
  rw [hm, show (-(p : Int) - -(m : Int)).toNat = m - p by omega, show (-(q : Int) - -(m : Int)).toNat = m - q by omega, shl_pow, shl_pow, Nat.mul_assoc, ← Nat.pow_add, Nat.mul_assoc, ← Nat.pow_add, show p + (m - p) = m by omega, show q + (m - q) = m by omega]
  simp only [if_neg (by decide : ¬ (false = true))]
  rw [cmp_mul]
theorem neg_fN (a : Nat) (ha : a ≤ 1000000) : (FloatKind.f64.decode (fN a)).neg = false := by
  obtain ⟨k, p, e, _⟩ := read_any a ha
  unfold FloatKind.decode
  rw [e]
  rfl

end Go.Proofs.YtallpldgkkpikaaGreatDoor

namespace Go.Proofs.YtallpldgkkpikaaGreatDoor

/-! Numbers that rise. -/
def upI (zs : List Int) (i : Nat) : Bool := match i with
  | 0 => true
  | i + 1 => match zs[i]?, zs[i + 1]? with
    | some a, some b => decide (a < b)
    | _, _ => true
theorem upI_succ {zs : List Int} {i : Nat} (h : i + 1 < zs.length) : upI zs (i + 1) = decide (zs[i] < zs[i + 1]) := by
  simp only [upI]
  rw [List.getElem?_eq_getElem h, List.getElem?_eq_getElem (by omega)]
def upN (zs : List Int) : Bool := (List.range zs.length).all (upI zs)
def okN (nx : Int) (zs : List Int) : Bool := zs.all (fun n => decide (1 ≤ n ∧ n < nx))
theorem upN_no {zs : List Int} {i : Nat} (h : i < zs.length) (hb : upI zs i = false) : upN zs = false :=
  List.all_eq_false.2 ⟨i, List.mem_range.2 h, by rw [hb]; simp⟩
theorem upN_yes {zs : List Int} (h : ∀ i, i < zs.length → upI zs i = true) : upN zs = true :=
  List.all_eq_true.2 fun i hi => h i (List.mem_range.1 hi)
theorem okN_no {nx : Int} {zs : List Int} {i : Nat} (h : i < zs.length) (hb : ¬ (1 ≤ zs[i] ∧ zs[i] < nx)) : okN nx zs = false :=
  List.all_eq_false.2 ⟨_, List.getElem_mem h, by simp; omega⟩
theorem okN_yes {nx : Int} {zs : List Int} (h : ∀ i (hi : i < zs.length), 1 ≤ zs[i] ∧ zs[i] < nx) : okN nx zs = true :=
  List.all_eq_true.2 fun x hx => by
    obtain ⟨i, hi, rfl⟩ := List.getElem_of_mem hx
    exact decide_eq_true (h i hi)
def atN : List Int → Int → Nat
  | [], _ => 0
  | x :: r, n => if x < n then atN r n + 1 else 0
theorem atN_le : ∀ (zs : List Int) (n : Int), atN zs n ≤ zs.length
  | [], _ => Nat.le_refl _
  | x :: r, n => by
    have := atN_le r n
    unfold atN
    split <;> simp <;> omega
theorem atN_lt : ∀ {zs : List Int} {n : Int} {k : Nat} (h : k < zs.length), k < atN zs n → zs[k] < n
  | [], _, _, h, _ => by simp at h
  | x :: r, n, k, h, hk => by
    unfold atN at hk
    split at hk
    · rename_i hx
      cases k with
      | zero => exact hx
      | succ k => exact atN_lt (zs := r) (by simpa using h) (by omega)
    · omega
theorem atN_at : ∀ {zs : List Int} {n : Int} {k : Nat} (h : k < zs.length), k = atN zs n → ¬ zs[k] < n
  | [], _, _, h, _ => by simp at h
  | x :: r, n, k, h, hk => by
    unfold atN at hk
    split at hk
    · subst hk
      exact atN_at (zs := r) (by simpa using h) rfl
    · rename_i hx
      subst hk
      simpa using hx
def hasN (zs : List Int) (n : Int) : Bool := match zs[atN zs n]? with
  | some x => x == n
  | Option.none => false
theorem hasN_at {zs : List Int} {n : Int} (h : atN zs n < zs.length) : hasN zs n = (zs[atN zs n] == n) := by
  unfold hasN
  rw [List.getElem?_eq_getElem h]
theorem hasN_end {zs : List Int} {n : Int} (h : ¬ atN zs n < zs.length) : hasN zs n = false := by
  unfold hasN
  rw [List.getElem?_eq_none (by omega)]
/-- Numbers that rise: one is among them just where it would stand. -/
theorem up_lt {zs : List Int} (h : upN zs = true) : ∀ i j (_ : i < j) (hj : j < zs.length), zs[i] < zs[j] := by
  intro i j hij
  induction j with
  | zero => omega
  | succ j ih =>
    intro hj
    have h1 : upI zs (j + 1) = true := List.all_eq_true.1 h _ (List.mem_range.2 hj)
    rw [upI_succ hj] at h1
    have h1 := of_decide_eq_true h1
    rcases Nat.lt_or_ge i j with h2 | h2
    · have := ih h2 (by omega)
      omega
    · obtain rfl : i = j := by omega
      exact h1

/-- A number is among some. -/
def isTo (zs : List Int) (z : Int) (n : Nat) : Bool := (zs.take n).any (fun x => x == z)
def isI (zs : List Int) (z : Int) : Bool := zs.any (fun x => x == z)
theorem isTo_zero (zs : List Int) (z : Int) : isTo zs z 0 = false := by simp [isTo]
theorem isTo_succ {zs : List Int} {z : Int} {n : Nat} (h : n < zs.length) : isTo zs z (n + 1) = (isTo zs z n || (zs[n] == z)) := by
  unfold isTo
  rw [List.take_succ_eq_append_getElem h, List.any_append]
  simp
theorem isI_yes {zs : List Int} {z : Int} {n : Nat} (h : n < zs.length) (he : (zs[n] == z) = true) : isI zs z = true :=
  List.any_eq_true.2 ⟨zs[n], List.getElem_mem h, he⟩
theorem isI_end (zs : List Int) (z : Int) : isTo zs z zs.length = isI zs z := by
  unfold isTo isI
  rw [List.take_length]
theorem isI_hasN {zs : List Int} (h : upN zs = true) (n : Int) : isI zs n = hasN zs n := by
  rcases Nat.lt_or_ge (atN zs n) zs.length with h1 | h1
  · rw [hasN_at h1]
    cases h2 : (zs[atN zs n] == n)
    · unfold isI
      rw [List.any_eq_false]
      intro x hx he
      obtain ⟨i, hi, rfl⟩ := List.getElem_of_mem hx
      have he := eq_of_beq he
      rcases Nat.lt_trichotomy i (atN zs n) with h3 | h3 | h3
      · have := atN_lt hi h3
        omega
      · subst h3
        rw [he] at h2
        simp at h2
      · have h4 := up_lt h _ _ h3 hi
        have h5 := atN_at h1 rfl
        omega
    · unfold isI
      rw [List.any_eq_true]
      exact ⟨_, List.getElem_mem h1, h2⟩
  · rw [hasN_end (by omega)]
    unfold isI
    rw [List.any_eq_false]
    intro x hx he
    obtain ⟨i, hi, rfl⟩ := List.getElem_of_mem hx
    have := atN_lt (n := n) hi (by omega)
    have he := eq_of_beq he
    omega

/-- A number put among rising ones. -/
def insZ (z : Int) : List Int → List Int
  | [] => [z]
  | x :: r => if x < z then x :: insZ z r else if x = z then x :: r else z :: x :: r
def SZ (l : List Int) : Prop := l.Pairwise (fun x y => x < y)
theorem insZ_mem (z : Int) : ∀ (l : List Int) (y : Int), y ∈ insZ z l ↔ y = z ∨ y ∈ l
  | [], y => by simp [insZ]
  | x :: xs, y => by
    unfold insZ
    split
    · rw [List.mem_cons, insZ_mem z xs y, List.mem_cons]
      constructor
      · rintro (h | h | h)
        · exact .inr (.inl h)
        · exact .inl h
        · exact .inr (.inr h)
      · rintro (h | h | h)
        · exact .inr (.inl h)
        · exact .inl h
        · exact .inr (.inr h)
    · split
      · rename_i h
        subst h
        simp
      · simp
theorem insZ_sz {z : Int} : ∀ l : List Int, SZ l → SZ (insZ z l)
  | [], _ => by simp [insZ, SZ]
  | x :: xs, h => by
    unfold SZ at h
    rw [List.pairwise_cons] at h
    unfold insZ
    split
    · rename_i hx
      unfold SZ
      rw [List.pairwise_cons]
      refine ⟨fun y hy => ?_, insZ_sz xs h.2⟩
      rcases (insZ_mem z xs y).1 hy with rfl | hy
      · exact hx
      · exact h.1 y hy
    · split
      · unfold SZ
        rw [List.pairwise_cons]
        exact h
      · unfold SZ
        rw [List.pairwise_cons, List.pairwise_cons]
        refine ⟨fun y hy => ?_, h⟩
        rw [List.mem_cons] at hy
        rcases hy with rfl | hy
        · omega
        · have := h.1 y hy
          omega
theorem insZ_len (z : Int) : ∀ l : List Int, (insZ z l).length ≤ l.length + 1
  | [] => by simp [insZ]
  | x :: xs => by
    have := insZ_len z xs
    unfold insZ
    split
    · simp; omega
    · split <;> simp
theorem sz_unique : ∀ l l' : List Int, SZ l → SZ l' → (∀ y, y ∈ l ↔ y ∈ l') → l = l'
  | [], [], _, _, _ => rfl
  | [], y :: _, _, _, h => by have := (h y).2 List.mem_cons_self; cases this
  | x :: _, [], _, _, h => by have := (h x).1 List.mem_cons_self; cases this
  | x :: xs, y :: ys, h1, h2, h => by
    unfold SZ at h1 h2
    rw [List.pairwise_cons] at h1 h2
    have hxy : x = y := by
      have a1 := (h x).1 List.mem_cons_self
      have a2 := (h y).2 List.mem_cons_self
      rw [List.mem_cons] at a1 a2
      rcases a1 with a1 | a1
      · exact a1
      · rcases a2 with a2 | a2
        · exact a2.symm
        · have b1 := h2.1 x a1
          have b2 := h1.1 y a2
          omega
    subst hxy
    have ht : ∀ z, z ∈ xs ↔ z ∈ ys := fun z => by
      constructor
      · intro hz
        have := (h z).1 (List.mem_cons_of_mem _ hz)
        rw [List.mem_cons] at this
        rcases this with rfl | this
        · have := h1.1 z hz
          omega
        · exact this
      · intro hz
        have := (h z).2 (List.mem_cons_of_mem _ hz)
        rw [List.mem_cons] at this
        rcases this with rfl | this
        · have := h2.1 z hz
          omega
        · exact this
    rw [sz_unique xs ys h1.2 h2.2 ht]
/-- The numbers of a list rising, each once. -/
def srT (zs : List Int) (k : Nat) : List Int := (zs.take k).foldl (fun o z => insZ z o) []
def srN (zs : List Int) : List Int := srT zs zs.length
theorem srT_zero (zs : List Int) : srT zs 0 = [] := by simp [srT]
theorem srT_succ {zs : List Int} {k : Nat} (h : k < zs.length) : srT zs (k + 1) = insZ zs[k] (srT zs k) := by
  unfold srT
  rw [List.take_succ_eq_append_getElem h, List.foldl_append]
  rfl
theorem srT_mem {zs : List Int} : ∀ k, k ≤ zs.length → ∀ y, y ∈ srT zs k ↔ y ∈ zs.take k
  | 0, _, y => by simp [srT]
  | k + 1, h, y => by
    rw [srT_succ (by omega), insZ_mem, srT_mem k (by omega) y, List.take_succ_eq_append_getElem (by omega), List.mem_append, List.mem_singleton]
    exact Or.comm
theorem srT_sz {zs : List Int} : ∀ k, k ≤ zs.length → SZ (srT zs k)
  | 0, _ => by simp [srT, SZ]
  | k + 1, h => by rw [srT_succ (by omega)]; exact insZ_sz _ (srT_sz k (by omega))
theorem srT_len {zs : List Int} : ∀ k, k ≤ zs.length → (srT zs k).length ≤ k
  | 0, _ => by simp [srT]
  | k + 1, h => by
    rw [srT_succ (by omega)]
    have := insZ_len (zs[k]'(by omega)) (srT zs k)
    have := srT_len (zs := zs) k (by omega)
    omega
theorem srN_mem {zs : List Int} (y : Int) : y ∈ srN zs ↔ y ∈ zs := by
  unfold srN
  rw [srT_mem _ (Nat.le_refl _), List.take_length]
theorem srN_sz (zs : List Int) : SZ (srN zs) := srT_sz _ (Nat.le_refl _)
theorem srN_len (zs : List Int) : (srN zs).length ≤ zs.length := srT_len _ (Nat.le_refl _)
/-- Where a number stands among rising ones, and what putting it there makes. -/
theorem insZ_at {z : Int} : ∀ (l : List Int) (m : Nat), m ≤ l.length → (∀ j (h : j < l.length), j < m → l[j] < z) → (∀ h : m < l.length, ¬ l[m] < z) →
    insZ z l = if h : m < l.length then (if l[m] = z then l else l.take m ++ z :: l.drop m) else l ++ [z]
  | [], m, hm, _, _ => by
    obtain rfl : m = 0 := by simpa using hm
    simp [insZ]
  | x :: xs, 0, _, _, h2 => by
    have this : ¬ x < z := h2 (by simp)
    unfold insZ
    rw [if_neg this]
    simp
  | x :: xs, m + 1, hm, h1, h2 => by
    have hx : x < z := h1 0 (by simp) (by omega)
    have ih := insZ_at (z := z) xs m (by simpa using hm) (fun j hj hjm => h1 (j + 1) (by simpa using hj) (by omega)) (fun hj => h2 (by simpa using hj))
    unfold insZ
    rw [if_pos hx, ih]
    by_cases hlt : m < xs.length
    · rw [dif_pos hlt, dif_pos (by simpa using hlt)]
      simp only [List.getElem_cons_succ]
      split <;> simp
    · rw [dif_neg hlt, dif_neg (by simpa using hlt)]
      simp
theorem insZ_keep {z : Int} {l : List Int} {m : Nat} (hm : m < l.length) (h1 : ∀ j (h : j < l.length), j < m → l[j] < z) (he : l[m] = z) : insZ z l = l := by
  rw [insZ_at l m (by omega) h1 (fun _ => by omega), dif_pos hm, if_pos he]
theorem insZ_new {z : Int} {l : List Int} {m : Nat} (hm : m < l.length) (h1 : ∀ j (h : j < l.length), j < m → l[j] < z) (h2 : ¬ l[m] < z) (he : l[m] ≠ z) : insZ z l = l.take m ++ z :: l.drop m := by
  rw [insZ_at l m (by omega) h1 (fun _ => h2), dif_pos hm, if_neg he]
theorem insZ_end {z : Int} {l : List Int} (h1 : ∀ j (h : j < l.length), j < l.length → l[j] < z) : insZ z l = l ++ [z] := by
  rw [insZ_at l l.length (by omega) h1 (fun h => by omega), dif_neg (by omega)]
/-- Numbers that rise are sorted, each once. -/
theorem sz_up {zs : List Int} : SZ zs ↔ upN zs = true := by
  constructor
  · intro h
    refine upN_yes fun i hi => ?_
    cases i with
    | zero => rfl
    | succ i =>
      rw [upI_succ hi]
      exact decide_eq_true (List.pairwise_iff_getElem.1 h i (i + 1) (by omega) hi (by omega))
  · intro h
    exact List.pairwise_iff_getElem.2 fun i j hi hj hij => up_lt h i j hij hj
theorem srN_up (zs : List Int) : upN (srN zs) = true := sz_up.1 (srN_sz zs)
theorem srN_self {zs : List Int} (h : upN zs = true) : srN zs = zs := sz_unique _ _ (srN_sz zs) (sz_up.2 h) (fun _ => srN_mem _)
/-- Sorted, and runs of one number taken together: the numbers rising, each once. -/
theorem compact_sz {ds : List Int} (hs : ds.Pairwise (fun x y => x ≤ y)) : ∀ m, m ≤ ds.length → SZ (Lib.compactUpTo ds.toArray m) ∧ ∀ y, y ∈ Lib.compactUpTo ds.toArray m ↔ y ∈ ds.take m
  | 0, _ => by simp [Lib.compactUpTo, SZ]
  | m + 1, hm => by
    obtain ⟨i1, i2⟩ := compact_sz hs m (by omega)
    have hget : ds.toArray[m]! = ds[m]'(by omega) := by simp [getElem!_def, List.getElem?_eq_getElem (show m < ds.length by omega)]
    have hle : ∀ y ∈ ds.take m, y ≤ ds[m]'(by omega) := by
      intro y hy
      obtain ⟨j, hj, rfl⟩ := List.getElem_of_mem hy
      rw [List.length_take] at hj
      rw [List.getElem_take]
      exact List.pairwise_iff_getElem.1 hs j m (by omega) (by omega) (by omega)
    rw [Lib.compactUpTo_succ, List.take_succ_eq_append_getElem (by omega), hget]
    by_cases hk : Lib.keeps ds.toArray m = true
    · rw [if_pos hk]
      have hlt : ∀ y ∈ ds.take m, y < ds[m]'(by omega) := by
        intro y hy
        have h1 := hle y hy
        cases m with
        | zero => simp at hy
        | succ m =>
          have hne : ds[m + 1]'(by omega) ≠ ds[m]'(by omega) := by
            intro he
            have : Lib.keeps ds.toArray (m + 1) = false := by
              unfold Lib.keeps
              simp [getElem!_def, List.getElem?_eq_getElem (show m < ds.length by omega), List.getElem?_eq_getElem (show m + 1 < ds.length by omega), he]
            rw [this] at hk
            cases hk
          have h2 : ds[m]'(by omega) ≤ ds[m + 1]'(by omega) := List.pairwise_iff_getElem.1 hs m (m + 1) (by omega) (by omega) (by omega)
          obtain ⟨j, hj, rfl⟩ := List.getElem_of_mem hy
          rw [List.length_take] at hj
          rw [List.getElem_take]
          rcases Nat.lt_or_ge j m with h3 | h3
          · have := List.pairwise_iff_getElem.1 hs j m (by omega) (by omega) h3
            omega
          · have : j = m := by omega
            subst this
            omega
      refine ⟨?_, fun y => ?_⟩
      · unfold SZ
        rw [List.pairwise_append]
        exact ⟨i1, by simp, fun a ha b hb => by rw [List.mem_singleton] at hb; subst hb; exact hlt a ((i2 a).1 ha)⟩
      · rw [List.mem_append, List.mem_append, i2]
    · rw [if_neg hk, List.append_nil]
      refine ⟨i1, fun y => ?_⟩
      rw [i2, List.mem_append, List.mem_singleton]
      constructor
      · exact .inl
      · rintro (h | rfl)
        · exact h
        · cases m with
          | zero => simp [Lib.keeps] at hk
          | succ m =>
            have he : ds[m + 1]'(by omega) = ds[m]'(by omega) := by
              unfold Lib.keeps at hk
              simpa [getElem!_def, List.getElem?_eq_getElem (show m < ds.length by omega), List.getElem?_eq_getElem (show m + 1 < ds.length by omega)] using hk
            rw [he]
            exact List.mem_take_iff_getElem.2 ⟨m, by omega, rfl⟩
theorem compact_sorted (zs : List Int) : Lib.compact (zs.mergeSort fun x y => decide (x ≤ y)) = srN zs := by
  have hs : (zs.mergeSort fun x y => decide (x ≤ y)).Pairwise (fun x y => x ≤ y) :=
    (List.pairwise_mergeSort (le := fun x y => decide (x ≤ y)) (fun a b c h1 h2 => by simp at *; omega) (fun a b => by simp; omega) zs).imp (fun h => by simpa using h)
  obtain ⟨h1, h2⟩ := compact_sz hs _ (Nat.le_refl _)
  refine sz_unique _ _ h1 (srN_sz zs) fun y => ?_
  rw [show Lib.compact _ = Lib.compactUpTo _ _ from rfl, h2, List.take_length, srN_mem]
  exact List.mem_mergeSort

end Go.Proofs.YtallpldgkkpikaaGreatDoor
