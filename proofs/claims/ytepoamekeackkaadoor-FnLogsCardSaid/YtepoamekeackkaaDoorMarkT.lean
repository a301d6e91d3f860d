/-
  The laws' marks: texts of numbers.
-/
import Derived.Test.YtepoamekeackkaaDoorGen
namespace Go.Proofs.YtepoamekeackkaaDoor
open Go.RowKit Go.Shelf

/-- The decimal digits of a number, none of 0. -/
def digT (n : Nat) : ByteArray := if _h : n = 0 then ⟨#[]⟩ else digT (n / 10) ++ ⟨#[UInt8.ofNat (48 + n % 10)]⟩
termination_by n
decreasing_by omega
theorem digT_zero : digT 0 = ⟨#[]⟩ := by rw [digT]; rfl
theorem digT_pos {n : Nat} (h : 0 < n) : digT n = digT (n / 10) ++ ⟨#[UInt8.ofNat (48 + n % 10)]⟩ := by
  rw [digT, dif_neg (by omega)]
theorem digT_size (n : Nat) : (digT n).size ≤ n := by
  induction n using Nat.strongRecOn with
  | ind n ih =>
    by_cases h : n = 0
    · subst h
      rw [digT_zero]
      exact Nat.zero_le _
    · rw [digT_pos (by omega), ByteArray.size_append]
      have := ih (n / 10) (by omega)
      have h1 : (⟨#[UInt8.ofNat (48 + n % 10)]⟩ : ByteArray).size = 1 := rfl
      omega
theorem app_nil (x : ByteArray) : x ++ ⟨#[]⟩ = x := by
  apply ByteArray.ext
  simp [ByteArray.data_append]
def mkT (n : Nat) : ByteArray := if n = 0 then ⟨#[109, 48]⟩ else ⟨#[109]⟩ ++ digT n

theorem digit_conv (w : World) (m : Nat) : (convert 22 9 (.slice (some ⟨w.heap.size, 0, none⟩) 1 1)).run Tryd.prog (w.alloc (.cells #[.int .u8 (48 + (m : Int) % 10)] 5)) = .ok (.string ⟨#[UInt8.ofNat (48 + m % 10)]⟩) (w.alloc (.cells #[.int .u8 (48 + (m : Int) % 10)] 5)) := by
  refine run_convert_bytes_back (P := Tryd.prog) _ 22 9 5 ⟨w.heap.size, 0, none⟩ 1 [UInt8.ofNat (48 + m % 10)] Tryd.underlying22 Tryd.underlying5 Tryd.underlying9 ?_
  intro j hj
  match j, hj with
  | 0, _ =>
    simp [Addr.add]
    omega

set_option maxHeartbeats 1000000 in
set_option maxRecDepth 100000 in
theorem markText_any (n : Nat) (w : World) (hn : n ≤ 9000000) :
    Calls Tryd.prog 45 #[.int .i64 n] w fun e w' => e = .returned (.string (mkT n)) ∧ Below w.heap.size w w' := by
  by_cases h0 : n = 0
  · subst h0
    go_enter Tryd.func45, Tryd.ntmps45
    go_wp2
    go_ret
    exact ⟨rfl, Below.refl _ _⟩
  · go_enter Tryd.func45, Tryd.ntmps45
    go_wp2
    go_loopw [0, 3] (fun kv s wr => ∃ (m : Nat) (o : ByteArray), m ≤ n ∧ kv = .int .i64 m ∧ s = .string o ∧ digT m ++ o = digT n ∧ o.size ≤ 9000000 - m + 100 ∧ Below w.heap.size w wr) (fun kv _ _ => (intOf kv).toNat)
    case atStart => exact ⟨n, ⟨#[]⟩, Nat.le_refl _, rfl, rfl, app_nil _, Nat.zero_le _, Below.refl _ _⟩
    case round =>
      obtain ⟨m, o, hm, rfl, rfl, hd, ho, hB⟩ := hrel
      have HD := hid hd
      clear hd
      by_cases hp : 0 < m
      · have hc := digit_conv wr m
        have HS := hid (digT_pos hp)
        have g1 : ¬9223372036854775807 < 1 + o.size := by omega
        generalize UInt8.ofNat (48 + m % 10) = d at *
        go_wp2
        go_roundw
        case rel =>
          refine ⟨m / 10, ⟨#[d]⟩ ++ o, by omega, by go_num, rfl, ?_, ?_, hB.alloc hB.size _⟩
          · rw [← ByteArray.append_assoc, ← HS.out]
            exact HD.out
          · rw [ByteArray.size_append]
            have : (⟨#[d]⟩ : ByteArray).size = 1 := rfl
            omega
        case measure => simp [intOf]; omega
      · obtain rfl : m = 0 := by omega
        have HE := hid (show ⟨#[109]⟩ ++ o = mkT n by
          have := HD.out
          rw [digT_zero] at this
          unfold mkT
          rw [if_neg h0, ← this]
          congr 1)
        have g1 : ¬9223372036854775807 < 1 + o.size := by omega
        go_wp2
        go_ret
        exact ⟨ret_str HE.out, hB⟩

theorem markText_at (n : Nat) (z : Int) (w : World) (hz : z = (n : Int)) (hn : n ≤ 9000000) :
    Calls Tryd.prog 45 #[.int .i64 z] w fun e w' => e = .returned (.string (mkT n)) ∧ Below w.heap.size w w' := by
  subst hz
  exact markText_any n w hn

end Go.Proofs.YtepoamekeackkaaDoor
