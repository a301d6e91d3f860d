/-
  Chapter 7: what followEach gives up with is caught (breachIn); GoodLog and FirstBroken, by both.
-/
import Derived.Defers
import Derived.Recover
import Derived.Laws.Pointers
import Derived.Test.YtepoamekeackkaaDoorLogH
namespace Go.Proofs.YtepoamekeackkaaDoor
open Go.RowKit Go.Shelf

theorem asB_yes (v : Value) (w : World) : (Instr.typeAssert (.iface 86 v) 20 86 true).run Tryd.prog w = .ok (.tuple #[v, .bool true]) w := by kernel_rfl

theorem asB_nil (w : World) : (Instr.typeAssert .nilIface 20 86 true).run Tryd.prog w = .ok (.tuple #[.agg #[.int .i64 0], .bool false]) w := by kernel_rfl

set_option maxRecDepth 100000 in
set_option maxHeartbeats 1000000 in
/-- The closure under a panic with a place: it is laid into the results. -/
theorem catch_hit (b c k : Nat) (x : Int) (y : Bool) (older : List PanicEntry) (w : World) (hbc : b ≠ c) (hb : b < w.heap.size) (hc : c < w.heap.size) (hp : w.cell? ⟨b, 0, none⟩ = some (.int .i64 x)) (hq : w.cell? ⟨c, 0, none⟩ = some (.bool y)) (fp : w.frozen? ⟨b, 0, none⟩ = false) (fq : w.frozen? ⟨c, 0, none⟩ = false) :
    CallsD Tryd.prog 56 #[.pointer (some ⟨b, 0, none⟩), .pointer (some ⟨c, 0, none⟩)] (.panicking ({ v := .iface 86 (.agg #[.int .i64 (k : Int)]), recovered := false } :: older)) w fun e u' w' =>
      e = .returned (.tuple #[]) ∧ u' = .panicking ({ v := .iface 86 (.agg #[.int .i64 (k : Int)]), recovered := true } :: older) ∧ w'.cell? ⟨b, 0, none⟩ = some (.int .i64 (k : Int)) ∧ w'.cell? ⟨c, 0, none⟩ = some (.bool true) ∧ ∀ n, n ≤ b → n ≤ c → n ≤ w.heap.size → Below n w w' := by
  refine callsD_of_wpS Tryd.func56 rfl fun c₀ cs hu => ?_
  apply wpS_seq
  apply wpS_region
  have hrep : Array.replicate 10 undef = #[undef, undef, undef, undef, undef, undef, undef, undef, undef, undef] := rfl
  simp [wpOpsS, go_sem, recoverD, hu, Tryd.ntmps56, Exit.thenS, asB_yes, hrep]
  refine wpS_of_wp ?_
  have hbn : b ≠ w.heap.size := by omega
  have hcn : c ≠ w.heap.size := by omega
  go_wp2
  simp [bodyPostS, results, Tryd.results56]
  have hal := fun (W2 : World) (o : Obj) (g : Nat) (hg : g < W2.heap.size) => ((Below.refl W2.heap.size W2).alloc (Nat.le_refl _) o).cell (p := ⟨g, 0, none⟩) hg
  refine ⟨?_, ?_, fun n h1 h2 h3 => (((Below.refl n w).setCell (p := ⟨b, 0, none⟩) h1 _).setCell (p := ⟨c, 0, none⟩) h2 _).alloc (by simpa using h3) _⟩
  · rw [hal _ _ b (by simpa using hb), World.cell?_setCell_other _ _ _ _ (fun e => hbc (congrArg Addr.block e).symm), World.cell?_setCell_same' _ _ _ (by rw [hp]; rfl)]
  · rw [hal _ _ c (by simpa using hc)]
    have hq2 : (w.setCell ⟨b, 0, none⟩ (.int .i64 (k : Int))).cell? ⟨c, 0, none⟩ = some (.bool y) := (World.cell?_setCell_other w ⟨b, 0, none⟩ ⟨c, 0, none⟩ _ (fun e => hbc (congrArg Addr.block e))).trans hq
    exact World.cell?_setCell_same' _ _ _ (by rw [hq2]; rfl)

set_option maxRecDepth 100000 in
set_option maxHeartbeats 1000000 in
/-- The closure where nothing was given up: all stays. -/
theorem catch_idle (b c : Nat) (w : World) :
    CallsD Tryd.prog 56 #[.pointer (some ⟨b, 0, none⟩), .pointer (some ⟨c, 0, none⟩)] .returning w fun e u' w' =>
      e = .returned (.tuple #[]) ∧ u' = .returning ∧ Below w.heap.size w w' := by
  refine callsD_of_wpS Tryd.func56 rfl fun c₀ cs hu => ?_
  apply wpS_seq
  apply wpS_region
  have hrep : Array.replicate 10 undef = #[undef, undef, undef, undef, undef, undef, undef, undef, undef, undef] := rfl
  simp [wpOpsS, go_sem, recoverD, hu, Tryd.ntmps56, Exit.thenS, asB_nil, hrep]
  refine wpS_of_wp ?_
  go_wp2
  cases c₀
  simp_all [bodyPostS, results, Tryd.results56]
  exact (Below.refl _ w).alloc (Nat.le_refl _) _

set_option maxRecDepth 100000 in
set_option maxHeartbeats 1000000 in
theorem breachIn_any (v : Value) (l : List Rc) (w : World) (ht : Tab w) (hm : l.length ≤ 60) (hf : ∀ r ∈ l, r.note.size ≤ 1048576) (hu : ∀ r ∈ l, r.su < 4294967296) (hr : RcS w v l) :
    Calls Tryd.prog 39 #[v] w fun e w' => e = .returned (.tuple #[.int .i64 (((brX l).getD 0 : Nat) : Int), .bool (brX l).isSome]) ∧ Below w.heap.size w w' := by
  have hmf : ∀ (fn : Fn) (first cap : Array Value) (w : World), (Instr.makeFunc fn first cap).run Tryd.prog w = .ok (.func fn first cap) w := fun _ _ _ _ => rfl
  have HF := hid (fun W (hW : Below w.heap.size w W) => followEach_any v l W (ht.on hW) hm hf hu (hr.below hW))
  have hB0 : Below w.heap.size w ((w.alloc (.cells #[.int .i64 0] 3)).alloc (.cells #[.bool false] 4)) := ((Below.refl _ w).alloc (Nat.le_refl _) _).alloc (by simp) _
  obtain ⟨a, cap, rfl⟩ := hr.len
  clear hr ht
  cases hx : brX l with
  | none =>
    have HE := hid (show foE l = .returned (.tuple #[]) by unfold foE; rw [hx])
    clear hx
    go_enter_defers Tryd.func39, Tryd.ntmps39
    go_wp2_with fail
    refine (HF.out _ hB0).mono ?_
    rintro e w1 ⟨he, hB1⟩
    rw [HE.out] at he
    subst he
    have c0 := hB1.cell (p := ⟨w.heap.size, 0, none⟩) (by simp; omega)
    have c1 := hB1.cell (p := ⟨w.heap.size + 1, 0, none⟩) (by simp)
    have f0 := hB1.frozen (p := ⟨w.heap.size, 0, none⟩) (by simp; omega)
    have f1 := hB1.frozen (p := ⟨w.heap.size + 1, 0, none⟩) (by simp)
    have hs1 := hB1.size
    simp [go_sem] at c0 c1 f0 f1 hs1
    have hB2 := below_one hB0 hB1
    clear hB0 hB1
    go_wp2_with fail
    refine leaves_cons (f := 56) (args := #[.pointer (some ⟨w.heap.size, 0, none⟩), .pointer (some ⟨w.heap.size + 1, 0, none⟩)]) (by simp) (by simp [go_sem]) ?_
    refine (catch_idle _ _ _).mono ?_
    rintro e u' w2 ⟨rfl, rfl, hB3⟩
    have d0 : w2.cell? ⟨w.heap.size, 0, none⟩ = some (.int .i64 0) := by
      rw [hB3.cell (p := ⟨w.heap.size, 0, none⟩) (by simp; omega), World.cell?_setCell_other _ _ _ _ (fun e => by have := congrArg Addr.block e; simp at this)]
      exact World.cell?_setCell_same' _ _ _ (by rw [c0]; rfl)
    have d1 : w2.cell? ⟨w.heap.size + 1, 0, none⟩ = some (.bool false) := by
      rw [hB3.cell (p := ⟨w.heap.size + 1, 0, none⟩) (by simp; omega)]
      exact World.cell?_setCell_same' _ _ _ (by rw [World.cell?_setCell_other _ _ _ _ (fun e => by have := congrArg Addr.block e; simp at this), c1]; rfl)
    simp [Leaves, settle, results, Tryd.results39, go_sem, d0, d1]
    exact ((hB2.setCell (p := ⟨w.heap.size, 0, none⟩) (Nat.le_refl _) _).setCell (p := ⟨w.heap.size + 1, 0, none⟩) (by simp) _).trans (hB3.mono (by simp; omega))
  | some k =>
    have HE := hid (show foE l = .panicked [{ v := .iface 86 (.agg #[.int .i64 (k : Int)]), recovered := false }] by unfold foE; rw [hx])
    clear hx
    go_enter_defers Tryd.func39, Tryd.ntmps39
    go_wp2_with fail
    refine (HF.out _ hB0).mono ?_
    rintro e w1 ⟨he, hB1⟩
    rw [HE.out] at he
    subst he
    have c0 := hB1.cell (p := ⟨w.heap.size, 0, none⟩) (by simp; omega)
    have c1 := hB1.cell (p := ⟨w.heap.size + 1, 0, none⟩) (by simp)
    have f0 := hB1.frozen (p := ⟨w.heap.size, 0, none⟩) (by simp; omega)
    have f1 := hB1.frozen (p := ⟨w.heap.size + 1, 0, none⟩) (by simp)
    have hs1 := hB1.size
    simp [go_sem] at c0 c1 f0 f1 hs1
    have hB2 := below_one hB0 hB1
    clear hB0 hB1
    go_wp2_with fail
    refine leaves_cons (f := 56) (args := #[.pointer (some ⟨w.heap.size, 0, none⟩), .pointer (some ⟨w.heap.size + 1, 0, none⟩)]) (by simp) (by simp [go_sem]) ?_
    refine (catch_hit w.heap.size (w.heap.size + 1) k _ _ [] _ (by omega) (by omega) (by omega) c0 c1 f0 f1).mono ?_
    rintro e u' w2 ⟨rfl, rfl, d0, d1, hB3⟩
    simp [Leaves, settle, results, Tryd.results39, go_sem, d0, d1]
    exact hB2.trans (hB3 w.heap.size (Nat.le_refl _) (by omega) (by omega))

theorem lg_len {l : List Rc} (h : lgB l = true) : l.length ≤ 60 := by
  unfold lgB at h
  simp only [Bool.and_eq_true, decide_eq_true_eq] at h
  exact h.1
theorem bkI_neg {l : List Rc} : decide (bkI l < 0) = (brX l).isNone := by
  unfold bkI
  cases brX l <;> simp

set_option maxHeartbeats 1000000 in
theorem specGoodLog_any (v : Value) (l : List Rc) (w : World) (hm : l.length ≤ 1048577) (hf : ∀ r ∈ l, r.note.size ≤ 1048576) (hu : ∀ r ∈ l, r.su < 4294967296) (hr : RcS w v l) :
    Calls Tryd.prog 17 #[v] w fun e w' => e = .returned (.bool (glB l)) ∧ Below w.heap.size w w' := by
  cases hg : lgB l
  · have HR := hid (show glB l = false by unfold glB; rw [hg]; rfl)
    go_enter Tryd.func17, Tryd.ntmps17
    go_wp2_with fail
    refine (l7Log_any v l _ hm hf hr).mono ?_
    rintro e w1 ⟨rfl, hB1⟩
    rw [hg]
    clear hg
    go_wp2_with fail
    go_ret
    exact ⟨ret_bool HR.out.symm, hB1⟩
  · have HR := hid (show glB l = decide (bkI l < 0) by unfold glB; rw [hg, bkI_neg]; rfl)
    have hl := lg_len hg
    go_enter Tryd.func17, Tryd.ntmps17
    go_wp2_with fail
    refine (l7Log_any v l _ hm hf hr).mono ?_
    rintro e w1 ⟨rfl, hB1⟩
    rw [hg]
    clear hg
    go_wp2_with fail
    refine (l7Broken_any v l _ hl hf hu (hr.below hB1)).mono ?_
    rintro e w2 ⟨rfl, hB2⟩
    have hB3 := below_one hB1 hB2
    clear hr
    go_wp2_with fail
    go_ret
    exact ⟨ret_bool HR.out.symm, hB3⟩

set_option maxHeartbeats 1000000 in
theorem implGoodLog_any (v : Value) (l : List Rc) (w : World) (ht : Tab w) (hm : l.length ≤ 1048577) (hf : ∀ r ∈ l, r.note.size ≤ 1048576) (hu : ∀ r ∈ l, r.su < 4294967296) (hr : RcS w v l) :
    Calls Tryd.prog 13 #[v] w fun e w' => e = .returned (.bool (glB l)) ∧ Below w.heap.size w w' := by
  have HT := hid ht
  clear ht
  cases hg : lgB l
  · have HR := hid (show glB l = false by unfold glB; rw [hg]; rfl)
    go_enter Tryd.func13, Tryd.ntmps13
    go_wp2_with fail
    refine (isLog_any v l _ hm hf hr).mono ?_
    rintro e w1 ⟨rfl, hB1⟩
    rw [hg]
    clear hg
    go_wp2_with fail
    go_ret
    exact ⟨ret_bool HR.out.symm, hB1⟩
  · have HR := hid (show glB l = !(brX l).isSome by unfold glB; rw [hg]; cases brX l <;> rfl)
    have hl := lg_len hg
    go_enter Tryd.func13, Tryd.ntmps13
    go_wp2_with fail
    refine (isLog_any v l _ hm hf hr).mono ?_
    rintro e w1 ⟨rfl, hB1⟩
    rw [hg]
    clear hg
    go_wp2_with fail
    refine (breachIn_any v l _ (HT.out.on hB1) hl hf hu (hr.below hB1)).mono ?_
    rintro e w2 ⟨rfl, hB2⟩
    have hB3 := below_one hB1 hB2
    generalize (brX l).isSome = q at *
    generalize ((brX l).getD 0 : Nat) = z at *
    clear hr
    go_wp2_with fail
    go_ret
    exact ⟨ret_bool HR.out.symm, hB3⟩

set_option maxHeartbeats 1000000 in
theorem specFirstBroken_any (v : Value) (l : List Rc) (w : World) (hm : l.length ≤ 1048577) (hf : ∀ r ∈ l, r.note.size ≤ 1048576) (hu : ∀ r ∈ l, r.su < 4294967296) (hr : RcS w v l) :
    Calls Tryd.prog 22 #[v] w fun e w' => e = .returned (.tuple #[.int .i64 (fbN l : Int), .bool (fbB l)]) ∧ Below w.heap.size w w' := by
  cases hg : lgB l
  · have HR := hid (show fbN l = 0 ∧ fbB l = false by unfold fbN fbB; rw [hg]; exact ⟨rfl, rfl⟩)
    go_enter Tryd.func22, Tryd.ntmps22
    go_wp2_with fail
    refine (l7Log_any v l _ hm hf hr).mono ?_
    rintro e w1 ⟨rfl, hB1⟩
    rw [hg]
    clear hg
    go_wp2_with fail
    go_ret2
    exact ⟨by rw [HR.out.1, HR.out.2]; rfl, hB1⟩
  · have hl := lg_len hg
    cases hx : brX l with
    | none =>
      have HR := hid (show fbN l = 0 ∧ fbB l = false by unfold fbN fbB; rw [hg, hx]; exact ⟨rfl, rfl⟩)
      have hk : bkI l = -1 := by unfold bkI; rw [hx]
      clear hx
      go_enter Tryd.func22, Tryd.ntmps22
      go_wp2_with fail
      refine (l7Log_any v l _ hm hf hr).mono ?_
      rintro e w1 ⟨rfl, hB1⟩
      rw [hg]
      clear hg
      go_wp2_with fail
      refine (l7Broken_any v l _ hl hf hu (hr.below hB1)).mono ?_
      rintro e w2 ⟨rfl, hB2⟩
      rw [hk]
      have hB3 := below_one hB1 hB2
      clear hr hk
      go_wp2_with fail
      go_ret2
      exact ⟨by rw [HR.out.1, HR.out.2]; rfl, hB3⟩
    | some k =>
      have HR := hid (show fbN l = k ∧ fbB l = true by unfold fbN fbB; rw [hg, hx]; exact ⟨rfl, rfl⟩)
      have hk : bkI l = (k : Int) := by unfold bkI; rw [hx]
      have d1 : decide ((k : Int) < 0) = false := by simp
      clear hx
      go_enter Tryd.func22, Tryd.ntmps22
      go_wp2_with fail
      refine (l7Log_any v l _ hm hf hr).mono ?_
      rintro e w1 ⟨rfl, hB1⟩
      rw [hg]
      clear hg
      go_wp2_with fail
      refine (l7Broken_any v l _ hl hf hu (hr.below hB1)).mono ?_
      rintro e w2 ⟨rfl, hB2⟩
      rw [hk]
      have hB3 := below_one hB1 hB2
      clear hr hk
      go_wp2_with fail
      go_ret2
      exact ⟨by rw [HR.out.1, HR.out.2]; rfl, hB3⟩

set_option maxHeartbeats 1000000 in
theorem implFirstBroken_any (v : Value) (l : List Rc) (w : World) (ht : Tab w) (hm : l.length ≤ 1048577) (hf : ∀ r ∈ l, r.note.size ≤ 1048576) (hu : ∀ r ∈ l, r.su < 4294967296) (hr : RcS w v l) :
    Calls Tryd.prog 15 #[v] w fun e w' => e = .returned (.tuple #[.int .i64 (fbN l : Int), .bool (fbB l)]) ∧ Below w.heap.size w w' := by
  have HT := hid ht
  clear ht
  cases hg : lgB l
  · have HR := hid (show fbN l = 0 ∧ fbB l = false by unfold fbN fbB; rw [hg]; exact ⟨rfl, rfl⟩)
    go_enter Tryd.func15, Tryd.ntmps15
    go_wp2_with fail
    refine (isLog_any v l _ hm hf hr).mono ?_
    rintro e w1 ⟨rfl, hB1⟩
    rw [hg]
    clear hg
    go_wp2_with fail
    go_ret2
    exact ⟨by rw [HR.out.1, HR.out.2]; rfl, hB1⟩
  · have hl := lg_len hg
    have HR := hid (show fbN l = (brX l).getD 0 ∧ fbB l = (brX l).isSome by unfold fbN fbB; rw [hg]; exact ⟨rfl, rfl⟩)
    go_enter Tryd.func15, Tryd.ntmps15
    go_wp2_with fail
    refine (isLog_any v l _ hm hf hr).mono ?_
    rintro e w1 ⟨rfl, hB1⟩
    rw [hg]
    clear hg
    go_wp2_with fail
    refine (breachIn_any v l _ (HT.out.on hB1) hl hf hu (hr.below hB1)).mono ?_
    rintro e w2 ⟨rfl, hB2⟩
    have hB3 := below_one hB1 hB2
    generalize (brX l).isSome = q at *
    generalize ((brX l).getD 0 : Nat) = z at *
    clear hr
    go_wp2_with fail
    go_ret2
    exact ⟨by rw [HR.out.1, HR.out.2]; rfl, hB3⟩

end Go.Proofs.YtepoamekeackkaaDoor
