/-
  Chapter 7: a log read from its text, by the specification and by the program: both tell the good log that has this text.
-/
import Derived.Lib.SplitLaws
import Derived.Test.YtepoamekeackkaaDoorHexM
namespace Go.Proofs.YtepoamekeackkaaDoor
open Go.RowKit

/-! A record put behind a good log. -/
theorem gl_ok {l : List Rc} (h : glB l = true) {k : Nat} (hk : k < l.length) : okA l k = true := by
  unfold glB at h
  simp only [Bool.and_eq_true, Option.isNone_iff_eq_none] at h
  exact brX_all h.2 k hk
theorem gl_log {l : List Rc} (h : glB l = true) : l.length ≤ 60 ∧ ∀ r ∈ l, ntB r.note = true := by
  unfold glB lgB at h
  simp only [Bool.and_eq_true, decide_eq_true_eq, List.all_eq_true] at h
  exact h.1
theorem gl_of {l : List Rc} (h60 : l.length ≤ 60) (hn : ∀ r ∈ l, ntB r.note = true) (ho : ∀ k, k < l.length → okA l k = true) : glB l = true := by
  unfold glB lgB
  rw [brX_none ho, decide_eq_true h60, List.all_eq_true.2 hn]
  rfl
theorem pvS_take {l : List Rc} {k n : Nat} (h : k ≤ n) (_hn : n ≤ l.length) : pvS (l.take n) k = pvS l k := by
  unfold pvS
  cases k with
  | zero => rfl
  | succ k =>
    rw [if_neg (by omega), if_neg (by omega), Nat.add_sub_cancel, List.getElem?_take, if_pos (by omega)]
theorem pvS_app {l m : List Rc} {k : Nat} (h : k ≤ l.length) : pvS (l ++ m) k = pvS l k := by
  have := pvS_take (l := l ++ m) (k := k) (n := l.length) h (by simp)
  rw [List.take_left] at this
  exact this.symm
theorem okA_app {l m : List Rc} {k : Nat} (h : k < l.length) : okA (l ++ m) k = okA l k := by
  unfold okA
  rw [List.getElem?_append_left h, pvS_app (by omega)]
theorem okA_put (l : List Rc) (note : ByteArray) : okA (puR l note) l.length = true := by
  have hl : l.length < (puR l note).length := by simp [puR]
  rw [okA_at hl]
  have e : (puR l note)[l.length] = rcN (pvS l l.length) l.length note := by simp [puR]
  rw [e, show (rcN (pvS l l.length) l.length note).note = note from rfl]
  have : pvS (puR l note) l.length = pvS l l.length := pvS_app (Nat.le_refl _)
  rw [this]
  exact Rc.same_refl _
theorem gl_nil : glB [] = true := rfl
theorem gl_put {l : List Rc} {note : ByteArray} (h : glB l = true) (hn : ntB note = true) (h6 : l.length < 60) : glB (puR l note) = true := by
  refine gl_of (by simp [puR]; omega) ?_ ?_
  · intro r hr
    unfold puR at hr
    rw [List.mem_append, List.mem_singleton] at hr
    rcases hr with hr | rfl
    · exact (gl_log h).2 r hr
    · exact hn
  · intro k hk
    rcases Nat.lt_or_ge k l.length with h1 | h1
    · unfold puR
      rw [okA_app h1]
      exact gl_ok h h1
    · obtain rfl : k = l.length := by
        have : (puR l note).length = l.length + 1 := by simp [puR]
        omega
      exact okA_put l note
theorem gl_take {l : List Rc} (h : glB l = true) (n : Nat) : glB (l.take n) = true := by
  refine gl_of (by rw [List.length_take]; have := (gl_log h).1; omega) (fun r hr => (gl_log h).2 r (List.mem_of_mem_take hr)) ?_
  intro k hk
  have h1 : okA (l.take n ++ l.drop n) k = okA (l.take n) k := okA_app hk
  rw [List.take_append_drop] at h1
  rw [← h1]
  exact gl_ok h (by rw [List.length_take] at hk; omega)
theorem gl_same {l : List Rc} (h : glB l = true) {k : Nat} (hk : k < l.length) : l[k] = rcN (pvS l k) k l[k].note := by
  have := gl_ok h hk
  rw [okA_at hk] at this
  exact Rc.same_eq this
theorem put_take {l : List Rc} (h : glB l = true) {k : Nat} (hk : k < l.length) : puR (l.take k) l[k].note = l.take (k + 1) := by
  unfold puR
  have hl : (l.take k).length = k := by rw [List.length_take]; omega
  rw [hl, pvS_take (Nat.le_refl _) (by omega), ← gl_same h hk, List.take_succ_eq_append_getElem hk]
/-- Its sums are numbers of 32 bits. -/
theorem gl_su {l : List Rc} (h : glB l = true) : ∀ r ∈ l, r.su < 4294967296 := by
  intro r hr
  obtain ⟨k, hk, rfl⟩ := List.getElem_of_mem hr
  induction k with
  | zero =>
    rw [gl_same h hk]
    exact smL_lt _ (by rw [show pvS l 0 = 2166136261 from rfl]; omega)
  | succ k ih =>
    rw [gl_same h hk]
    refine smL_lt _ ?_
    have : pvS l (k + 1) = l[k].su := by
      unfold pvS
      rw [if_neg (by omega), Nat.add_sub_cancel, List.getElem?_eq_getElem (by omega)]
    rw [this]
    exact ih (by omega) (List.getElem_mem _)

/-! The line of a record. -/
theorem pl_no {s : ByteArray} (h : ntB s = true) {ch : UInt8} (hc : ch.toNat < 32) : ch ∉ s.data.toList := by
  unfold ntB at h
  simp only [Bool.and_eq_true, List.all_eq_true] at h
  intro hm
  have := h.2 ch hm
  unfold plB at this
  simp only [Bool.and_eq_true, decide_eq_true_eq] at this
  omega
theorem hexD_ge (d : Nat) (h : d < 16) : 48 ≤ (hexD d).toNat := by
  have : ∀ k : Fin 16, 48 ≤ (hexD k.val).toNat := by decide
  exact this ⟨d, h⟩
theorem hx_ge (k n : Nat) : ∀ b ∈ hxW k n, 48 ≤ b.toNat := by
  induction k generalizing n with
  | zero => intro b hb; cases hb
  | succ k ih =>
    intro b hb
    rw [hxW, List.mem_append, List.mem_singleton] at hb
    rcases hb with hb | rfl
    · exact ih _ b hb
    · exact hexD_ge _ (Nat.mod_lt _ (by omega))
theorem hx_no {k n : Nat} {ch : UInt8} (hc : ch.toNat < 48) : ch ∉ hxW k n := fun hm => by
  have := hx_ge k n ch hm
  omega
theorem rl_list (r : Rc) : (rlT r).data.toList = Lib.itoa r.num ++ 32 :: (hxW 8 r.su ++ 32 :: r.note.data.toList) := by
  simp [rlT, numT]
theorem rl_no {r : Rc} (h0 : 0 ≤ r.num) (hn : ntB r.note = true) : (10 : UInt8) ∉ (rlT r).data.toList := by
  rw [rl_list]
  simp only [List.mem_append, List.mem_cons, not_or]
  exact ⟨no_num (by decide) h0, by decide, hx_no (by decide), by decide, pl_no hn (by decide)⟩
theorem cut_parts {ch : UInt8} (a b : List UInt8) (h : ch ∉ a) : cutA ⟨(a ++ ch :: b).toArray⟩ ch = ⟨a.toArray⟩ ∧ cutB ⟨(a ++ ch :: b).toArray⟩ ch = ⟨b.toArray⟩ ∧ cutF ⟨(a ++ ch :: b).toArray⟩ ch = true := by
  have hf : fI ⟨(a ++ ch :: b).toArray⟩ ch = some a.length := fI_parts a b h
  obtain ⟨h1, h2, h3⟩ := cut_some hf
  exact ⟨by rw [h1, ext_front], by rw [h2, ext_back], h3⟩

/-! By the specification. -/
/-- Where the first blank stands, or the end. -/
def blA (x : ByteArray) : Nat := (fI x 32).getD x.size
def ntS (x : ByteArray) : ByteArray := x.extract (blA x + 10) x.size
def lnB (l : List Rc) (x : ByteArray) : Bool := (decide (blA x + 10 ≤ x.size) && !(l.length == 60)) && ntB (ntS x)
/-- The log that lines make. -/
def rdLs : List ByteArray → List Rc → Option (List Rc)
  | [], l => some l
  | x :: r, l => if lnB l x then rdLs r (puR l (ntS x)) else none
def rdSl (s : ByteArray) : Option (List Rc) := match rdLs (split s 10).dropLast [] with
  | some l => if (ltT l).toList == s.toList then some l else none
  | none => none
theorem rdLs_good : ∀ (xs : List ByteArray) (l l' : List Rc), glB l = true → rdLs xs l = some l' → glB l' = true
  | [], l, l', h, e => by
    rw [rdLs] at e
    cases e
    exact h
  | x :: r, l, l', h, e => by
    rw [rdLs] at e
    split at e
    · rename_i hb
      unfold lnB at hb
      simp only [Bool.and_eq_true, Bool.not_eq_true', beq_eq_false_iff_ne] at hb
      have h6 := (gl_log h).1
      exact rdLs_good r _ l' (gl_put h hb.2 (by have := hb.1.2; omega)) e
    · cases e
theorem rdSl_sound {s : ByteArray} {l : List Rc} (h : rdSl s = some l) : glB l = true ∧ ltT l = s := by
  unfold rdSl at h
  split at h
  · rename_i l' e
    split at h
    · rename_i hq
      cases h
      refine ⟨rdLs_good _ _ _ gl_nil e, ?_⟩
      apply bytes_same
      have := eq_of_beq hq
      rw [toList_data, toList_data] at this
      exact this
    · cases h
  · cases h
theorem rl_blank {r : Rc} (h0 : 0 ≤ r.num) : fI (rlT r) 32 = some (Lib.itoa r.num).length := by
  unfold fI
  rw [rl_list]
  exact fI_parts _ _ (no_num (by decide) h0)
theorem rl_len (r : Rc) : (rlT r).size = (Lib.itoa r.num).length + 10 + r.note.size := by
  have : (rlT r).size = (rlT r).data.toList.length := by simp
  rw [this, rl_list]
  simp only [List.length_append, List.length_cons, hxW_len]
  have h2 : r.note.data.toList.length = r.note.size := by simp
  omega
theorem ntS_back {r : Rc} (h0 : 0 ≤ r.num) : blA (rlT r) = (Lib.itoa r.num).length ∧ ntS (rlT r) = r.note := by
  have hb : blA (rlT r) = (Lib.itoa r.num).length := by unfold blA; rw [rl_blank h0]; rfl
  refine ⟨hb, ?_⟩
  unfold ntS
  rw [hb]
  apply bytes_same
  rw [ByteArray.data_extract, Array.toList_extract, List.extract_eq_take_drop, rl_list]
  have e : Lib.itoa r.num ++ 32 :: (hxW 8 r.su ++ 32 :: r.note.data.toList) = (Lib.itoa r.num ++ 32 :: (hxW 8 r.su ++ [32])) ++ r.note.data.toList := by simp
  rw [e, List.drop_left' (by simp [hxW_len])]
  rw [List.take_of_length_le (by rw [rl_len]; simp)]
theorem rdLs_back {l : List Rc} (h : glB l = true) : ∀ k, k ≤ l.length → rdLs ((l.drop (l.length - k)).map rlT) (l.take (l.length - k)) = some l
  | 0, _ => by simp [rdLs]
  | k + 1, hk => by
    have ih := rdLs_back h k (by omega)
    have hlt : l.length - (k + 1) < l.length := by omega
    have hs := gl_same h hlt
    have h0 : 0 ≤ l[l.length - (k + 1)].num := by rw [hs]; show (0 : Int) ≤ ((_ : Nat) : Int); omega
    have hn := (gl_log h).2 _ (List.getElem_mem hlt)
    have h60 := (gl_log h).1
    rw [List.drop_eq_getElem_cons hlt, List.map_cons, rdLs]
    obtain ⟨e1, e2⟩ := ntS_back h0
    have hb : lnB (l.take (l.length - (k + 1))) (rlT l[l.length - (k + 1)]) = true := by
      unfold lnB
      rw [e1, e2, hn, decide_eq_true (by rw [rl_len]; omega)]
      have : ((l.take (l.length - (k + 1))).length == 60) = false := by
        rw [beq_eq_false_iff_ne, List.length_take]
        omega
      rw [this]
      rfl
    rw [if_pos hb, e2, put_take h hlt, show l.length - (k + 1) + 1 = l.length - k by omega]
    exact ih
theorem lt_list : ∀ l : List Rc, (ltT l).data.toList = l.flatMap (fun r => (rlT r).data.toList ++ [10])
  | [] => rfl
  | r :: l => by
    rw [List.flatMap_cons, ← lt_list l]
    simp [ltT]
theorem lt_split : ∀ l : List Rc, (∀ r ∈ l, (10 : UInt8) ∉ (rlT r).data.toList) → split (ltT l) 10 = l.map rlT ++ [⟨#[]⟩]
  | [], _ => split_one [] (by simp)
  | r :: l, h => by
    have e : ltT (r :: l) = ⟨((rlT r).data.toList ++ 10 :: (ltT l).data.toList).toArray⟩ := by
      apply bytes_same
      simp [ltT]
    rw [e, split_parts _ _ (h r List.mem_cons_self)]
    have e2 : (⟨(ltT l).data.toList.toArray⟩ : ByteArray) = ltT l := (bytes_of _).symm
    have e3 : (⟨(rlT r).data.toList.toArray⟩ : ByteArray) = rlT r := (bytes_of _).symm
    rw [e2, e3, lt_split l (fun x hx => h x (List.mem_cons_of_mem _ hx))]
    rfl
theorem gl_num {l : List Rc} (h : glB l = true) : ∀ r ∈ l, 0 ≤ r.num ∧ r.num ≤ 60 := by
  intro r hr
  obtain ⟨k, hk, rfl⟩ := List.getElem_of_mem hr
  have h60 := (gl_log h).1
  have : l[k].num = ((k + 1 : Nat) : Int) := congrArg Rc.num (gl_same h hk)
  omega
theorem gl_lines {l : List Rc} (h : glB l = true) : ∀ r ∈ l, (10 : UInt8) ∉ (rlT r).data.toList := fun r hr => rl_no (gl_num h r hr).1 ((gl_log h).2 r hr)
theorem rdSl_back {l : List Rc} (h : glB l = true) : rdSl (ltT l) = some l := by
  unfold rdSl
  rw [lt_split l (gl_lines h), List.dropLast_concat]
  have := rdLs_back h l.length (Nat.le_refl _)
  rw [Nat.sub_self, List.drop_zero, List.take_zero] at this
  rw [this]
  simp

/-! By the program. -/
/-- What noteOfLine tells. -/
def noL (x : ByteArray) : ByteArray := ((Lib.splitB ⟨#[32]⟩ 0 (min 3 (x.size + 1) - 1) x).getLast?).getD x
def stB (l : List Rc) (s : ByteArray) : Bool := (cutF s 10 && apB l (noL (cutA s 10))) && ((rlT (rcN (pvS l l.length) l.length (noL (cutA s 10)))).toList == (cutA s 10).toList)
/-- The log that the rest of a text makes; n bounds its length. -/
def rdPg : Nat → List Rc → ByteArray → Option (List Rc)
  | 0, l, _ => some l
  | n + 1, l, s => if s.toList == [] then some l else if stB l s then rdPg n (puR l (noL (cutA s 10))) (cutB s 10) else none
theorem cut_size {s : ByteArray} (h : cutF s 10 = true) : (cutB s 10).size + 1 ≤ s.size := by
  cases hf : fI s 10 with
  | none => rw [(cut_none hf).2.2] at h; cases h
  | some i =>
    have := fI_lt hf
    rw [(cut_some hf).2.1, ByteArray.size_extract]
    omega
theorem cut_join {s : ByteArray} (h : cutF s 10 = true) : s.data.toList = (cutA s 10).data.toList ++ 10 :: (cutB s 10).data.toList := by
  cases hf : fI s 10 with
  | none => rw [(cut_none hf).2.2] at h; cases h
  | some i =>
    rw [(cut_some hf).1, (cut_some hf).2.1]
    have := data_parts s i (fI_lt hf)
    rw [fI_at hf] at this
    exact this
theorem rdPg_sound : ∀ (n : Nat) (l l' : List Rc) (s : ByteArray), s.size < n → glB l = true → rdPg n l s = some l' → glB l' = true ∧ (ltT l').data.toList = (ltT l).data.toList ++ s.data.toList
  | 0, _, _, _, h, _, _ => by omega
  | n + 1, l, l', s, hn, hg, e => by
    rw [rdPg] at e
    split at e
    · rename_i h0
      cases e
      have : s.data.toList = [] := by
        have := eq_of_beq h0
        rw [toList_data] at this
        exact this
      rw [this]
      exact ⟨hg, by simp⟩
    · split at e
      · rename_i hb
        unfold stB at hb
        simp only [Bool.and_eq_true] at hb
        obtain ⟨⟨hf, ha⟩, ht⟩ := hb
        have hz := cut_size hf
        have ha' := ha
        unfold apB at ha
        simp only [Bool.and_eq_true, Bool.not_eq_true', beq_eq_false_iff_ne] at ha
        have h60 := (gl_log hg).1
        obtain ⟨h1, h2⟩ := rdPg_sound n _ l' _ (by omega) (gl_put hg ha.1.2 (by have := ha.2; omega)) e
        refine ⟨h1, ?_⟩
        rw [h2, cut_join hf]
        have e2 : puR l (noL (cutA s 10)) = l ++ [rcN (pvS l l.length) l.length (noL (cutA s 10))] := rfl
        have e3 := eq_of_beq ht
        rw [toList_data, toList_data] at e3
        rw [e2, ltT_snoc]
        simp [e3]
      · cases e
theorem noL_back {r : Rc} (h0 : 0 ≤ r.num) : noL (rlT r) = r.note := by
  have hl := rl_len r
  have hm : min 3 ((rlT r).size + 1) - 1 = 1 + 1 := by omega
  unfold noL
  rw [hm, Lib.splitB_hit _ _ _ _ (Lib.itoa r.num).length (by rw [index_of_one, index_some (rl_blank h0)])]
  have e : rlT r = ⟨(Lib.itoa r.num ++ 32 :: (hxW 8 r.su ++ 32 :: r.note.data.toList)).toArray⟩ := by
    apply bytes_same
    rw [rl_list]
  have eb : (rlT r).extract ((Lib.itoa r.num).length + (⟨#[32]⟩ : ByteArray).size) (rlT r).size = ⟨(hxW 8 r.su ++ 32 :: r.note.data.toList).toArray⟩ := by
    rw [show (⟨#[32]⟩ : ByteArray).size = 1 from rfl, e, ext_back]
  rw [eb]
  have hf : fI ⟨(hxW 8 r.su ++ 32 :: r.note.data.toList).toArray⟩ 32 = some (hxW 8 r.su).length := fI_parts _ _ (hx_no (by decide))
  rw [Lib.splitB_hit _ _ _ _ (hxW 8 r.su).length (by rw [index_of_one, index_some hf]), show (⟨#[32]⟩ : ByteArray).size = 1 from rfl, ext_back, Lib.splitB_zero]
  show (⟨r.note.data.toList.toArray⟩ : ByteArray) = r.note
  exact (bytes_of _).symm
theorem rdPg_back {l : List Rc} (h : glB l = true) : ∀ (k n : Nat), k ≤ l.length → (ltT (l.drop (l.length - k))).size < n → rdPg n (l.take (l.length - k)) (ltT (l.drop (l.length - k))) = some l
  | _, 0, _, hn => by omega
  | 0, n + 1, _, _ => by
    have e : l.drop (l.length - 0) = [] := by simp
    rw [rdPg, e]
    simp [ltT]
  | k + 1, n + 1, hk, hn => by
    have hlt : l.length - (k + 1) < l.length := by omega
    have hs := gl_same h hlt
    have hr := List.getElem_mem hlt
    have h0 := (gl_num h _ hr).1
    have hnt := (gl_log h).2 _ hr
    have h60 := (gl_log h).1
    have hd := List.drop_eq_getElem_cons hlt
    rw [show l.length - (k + 1) + 1 = l.length - k by omega] at hd
    have ht : ltT (l.drop (l.length - (k + 1))) = ⟨((rlT l[l.length - (k + 1)]).data.toList ++ 10 :: (ltT (l.drop (l.length - k))).data.toList).toArray⟩ := by
      rw [hd]
      apply bytes_same
      simp [ltT]
    obtain ⟨c1, c2, c3⟩ := cut_parts (rlT l[l.length - (k + 1)]).data.toList (ltT (l.drop (l.length - k))).data.toList (gl_lines h _ hr)
    rw [← ht] at c1 c2 c3
    rw [show (⟨(rlT l[l.length - (k + 1)]).data.toList.toArray⟩ : ByteArray) = rlT l[l.length - (k + 1)] from (bytes_of _).symm] at c1
    rw [show (⟨(ltT (l.drop (l.length - k))).data.toList.toArray⟩ : ByteArray) = ltT (l.drop (l.length - k)) from (bytes_of _).symm] at c2
    have hz := cut_size c3
    have ih := rdPg_back h k n (by omega) (by rw [c2] at hz; omega)
    have hlen : (l.take (l.length - (k + 1))).length = l.length - (k + 1) := by rw [List.length_take]; omega
    have hne : ((ltT (l.drop (l.length - (k + 1)))).toList == []) = false := by
      rw [beq_eq_false_iff_ne, toList_data, ht]
      simp
    have hap : apB (l.take (l.length - (k + 1))) l[l.length - (k + 1)].note = true := by
      unfold apB
      rw [gl_take h, hnt]
      have : ((l.take (l.length - (k + 1))).length == 60) = false := by rw [beq_eq_false_iff_ne]; omega
      rw [this]
      rfl
    have hst : stB (l.take (l.length - (k + 1))) (ltT (l.drop (l.length - (k + 1)))) = true := by
      unfold stB
      rw [c1, c3, noL_back h0, hap, hlen, pvS_take (Nat.le_refl _) (by omega), ← hs]
      simp
    rw [rdPg, hne]
    simp only [Bool.false_eq_true, if_false]
    rw [if_pos hst, c1, c2, noL_back h0, put_take h hlt, show l.length - (k + 1) + 1 = l.length - k by omega]
    exact ih
/-- What ReadLog tells. -/
def rdX (s : ByteArray) : Option (List Rc) := rdPg (s.size + 1) [] s
theorem rdX_sound {s : ByteArray} {l : List Rc} (h : rdX s = some l) : glB l = true ∧ ltT l = s := by
  obtain ⟨h1, h2⟩ := rdPg_sound _ _ _ _ (Nat.lt_succ_self _) gl_nil h
  refine ⟨h1, bytes_same ?_⟩
  rw [h2]
  rfl
theorem rdX_back {l : List Rc} (h : glB l = true) : rdX (ltT l) = some l := by
  have := rdPg_back h l.length ((ltT l).size + 1) (Nat.le_refl _) (by rw [Nat.sub_self, List.drop_zero]; omega)
  rw [Nat.sub_self, List.drop_zero, List.take_zero] at this
  exact this
theorem rdl_alike (s : ByteArray) : rdX s = rdSl s := by
  cases h : rdX s with
  | some l =>
    obtain ⟨h1, h2⟩ := rdX_sound h
    rw [← h2, rdSl_back h1]
  | none =>
    cases h' : rdSl s with
    | none => rfl
    | some l =>
      obtain ⟨h1, h2⟩ := rdSl_sound h'
      rw [← h2, rdX_back h1] at h
      cases h

end Go.Proofs.YtepoamekeackkaaDoor
