/- A crash in the midst of writes and erasures: plainly. -/
import Derived.Test.YthlaackalmgfnaaEp
namespace Go.Proofs.Ythlaackalmgfnaa
open Go.RowKit

/-- Behind a Flush, by writes of one text (W) and erasures (E). -/
structure Tw (s : List Blk) (g : Fin 128 → UInt8) (W E : List Bool) (st m : Nat) (d : Dv) : Prop where
  wf : Wf d
  sure : d.sure = s
  up : d.up = true
  starts : d.starts = st
  few : d.acts.length ≤ m
  lw : W.length = s.length
  le : E.length = s.length
  acts : ∀ a ∈ d.acts, (∃ i, a = .wr i g ∧ W[i]? = some true) ∨ (∃ i, a = .er i ∧ W[i]? = some false ∧ E[i]? = some true)
  blk : ∀ i : Nat, W[i]? = some true → ∃ b : Blk, s[i]? = some b ∧ b.st = 0
theorem Tw.start {d : Dv} (h : Wf d) (hu : d.up = true) (g : Fin 128 → UInt8) : Tw d.told g (List.replicate d.told.length false) (List.replicate d.told.length false) d.starts 0 (flD d) :=
  ⟨flD_wf h, rfl, hu, rfl, Nat.le_refl _, by simp, by simp, fun a ha => by simp [flD] at ha, fun i hi => by rw [List.getElem?_replicate] at hi; split at hi <;> simp at hi⟩
theorem set_same (W : List Bool) (k : Nat) (b : Bool) (h : W[k]? = some b) : W.set k b = W := by
  apply List.ext_getElem?
  intro j
  by_cases e : k = j
  · subst e; rw [List.getElem?_set_self (List.getElem?_eq_some_iff.1 h).1, h]
  · rw [List.getElem?_set_ne e]
theorem Tw.weak {s : List Blk} {g : Fin 128 → UInt8} {W E : List Bool} {st m : Nat} {d : Dv} (h : Tw s g W E st m d) : Tw s g W E st (m + 1) d := { h with few := Nat.le_succ_of_le h.few }
/-- A write. -/
theorem Tw.write {s : List Blk} {g : Fin 128 → UInt8} {W : List Bool} {N st m : Nat} {d : Dv} (h : Tw s g W (List.replicate N false) st m d) (k : Nat) (T : List UInt8) (hT : ofT T = g) (b : Bool) (hb : W[k]? = some b) :
    Tw s g (W.set k (decide ((writeD d (k : Int) T).1 = 0) || b)) (List.replicate N false) st (m + 1) (writeD d (k : Int) T).2 := by
  rcases h.wf.write (k : Int) T with ⟨h1, h2⟩ | ⟨h1, _, h3, h4, _, h6⟩
  · rw [h1, decide_eq_false h2, Bool.false_or, set_same W k b hb]
    exact h.weak
  · rw [h1, hT]
    simp only [Int.toNat_natCast] at h6 ⊢
    rw [decide_true, Bool.true_or]
    have hkl := (List.getElem?_eq_some_iff.1 hb).1
    refine ⟨h.wf.act (by show k < _; omega) h6, h.sure, h.up, h.starts, by show (d.acts ++ [_]).length ≤ _; have := h.few; simp; omega, by simp [h.lw], h.le, fun a ha => ?_, fun i hi => ?_⟩
    · rcases List.mem_append.1 ha with ha | ha
      · rcases h.acts a ha with ⟨i, e, hw⟩ | ⟨i, e, _, he⟩
        · refine .inl ⟨i, e, ?_⟩
          by_cases ek : k = i
          · subst ek; rw [List.getElem?_set_self hkl]
          · rw [List.getElem?_set_ne ek]; exact hw
        · rw [List.getElem?_replicate] at he; split at he <;> simp at he
      · simp at ha
        exact .inl ⟨k, ha, List.getElem?_set_self hkl⟩
    · by_cases ek : k = i
      · subst ek
        have hks : k < s.length := by rw [← h.lw]; exact hkl
        refine ⟨s[k], List.getElem?_eq_getElem hks, ?_⟩
        have := h.wf.lg.mono k d.acts.length
        rw [List.take_of_length_le (Nat.le_refl _), ← h.wf.tl, h6, h.sure, List.getD_eq_getElem?_getD, List.getElem?_eq_getElem hks] at this
        exact Nat.le_zero.1 this
      · rw [List.getElem?_set_ne ek] at hi; exact h.blk i hi
/-- An erasure. -/
theorem Tw.erase {s : List Blk} {g : Fin 128 → UInt8} {W E : List Bool} {st m : Nat} {d : Dv} (h : Tw s g W E st m d) (k : Nat) (b : Bool) (hw : W[k]? = some false) (hb : E[k]? = some b) :
    Tw s g W (E.set k (decide ((eraseD d (k : Int)).1 = 0) || b)) st (m + 1) (eraseD d (k : Int)).2 := by
  have hkl := (List.getElem?_eq_some_iff.1 hb).1
  have mono : ∀ (c : Bool) (i : Nat), E[i]? = some true → (k = i → c = true ∨ b = true) → (c = false → b = true → k ≠ i ∨ True) → (E.set k (c || b))[i]? = some true := fun c i hi h2 _ => by
    by_cases ek : k = i
    · subst ek
      rw [List.getElem?_set_self hkl]
      rcases h2 rfl with h | h
      · rw [h]; rfl
      · rw [h, Bool.or_true]
    · rw [List.getElem?_set_ne ek]; exact hi
  have keep : ∀ (c : Bool) (i : Nat), E[i]? = some true → (E.set k (c || b))[i]? = some true := fun c i hi => mono c i hi (fun e => by subst e; rw [hb] at hi; exact .inr (by simpa using hi)) (fun _ _ => .inr trivial)
  rcases h.wf.erase (k : Int) with ⟨h1, _⟩ | ⟨h1, _, h3, h4, h6⟩
  · rw [h1]
    refine ⟨h.wf, h.sure, h.up, h.starts, Nat.le_succ_of_le h.few, h.lw, by simp [h.le], fun a ha => ?_, h.blk⟩
    rcases h.acts a ha with h2 | ⟨i, e, h3, h4⟩
    · exact .inl h2
    · exact .inr ⟨i, e, h3, keep _ i h4⟩
  · rw [h1]
    simp only [Int.toNat_natCast] at h6 ⊢
    rw [decide_true, Bool.true_or]
    refine ⟨h.wf.act (by show k < _; omega) h6, h.sure, h.up, h.starts, by show (d.acts ++ [_]).length ≤ _; have := h.few; simp; omega, h.lw, by simp [h.le], fun a ha => ?_, h.blk⟩
    rcases List.mem_append.1 ha with ha | ha
    · rcases h.acts a ha with h2 | ⟨i, e, h3, h4⟩
      · exact .inl h2
      · have := keep true i h4
        rw [Bool.true_or] at this
        exact .inr ⟨i, e, h3, this⟩
    · simp at ha
      exact .inr ⟨k, ha, hw, List.getElem?_set_self hkl⟩
/-- What is left. -/
theorem Tw.left {s : List Blk} {g : Fin 128 → UInt8} {W E : List Bool} {st m : Nat} {d : Dv} (h : Tw s g W E st m d) (k : List Int) (i : Nat) (b0 : Blk) (hb : s[i]? = some b0) :
    ∃ b : Blk, (crashD d k).told[i]? = some b ∧ (W[i]? = some true → b0.st = 0 ∧ (b = b0 ∨ ∃ n, b = ⟨1, tornB g n⟩)) ∧ (W[i]? = some false → b = b0 ∨ E[i]? = some true ∧ b.st = 2) := by
  have hil : i < s.length := (List.getElem?_eq_some_iff.1 hb).1
  have hl : (crashD d k).sure.length = s.length := by show (crashN d.sure d.told d.acts k d.acts.length).1.length = _; rw [(crashN_len _ _ _ _ _).1, h.sure]
  have hsd : d.sure.getD i blank = b0 := by rw [h.sure, List.getD_eq_getElem?_getD, hb]; rfl
  refine ⟨(crashD d k).sure[i]'(by omega), by rw [h.wf.crash_eq]; exact List.getElem?_eq_getElem _, fun hw => ⟨?_, ?_⟩, fun hw => ?_⟩
  · obtain ⟨b, h1, h2⟩ := h.blk i hw
    rw [hb] at h1
    obtain rfl : b0 = b := by simpa using h1
    exact h2
  · have := crashN_P (fun b => b = b0 ∨ ∃ n, b = ⟨1, tornB g n⟩) d.sure d.told d.acts k i (.inl hsd) (fun a ha ea b n hP => by
      rcases h.acts a ha with ⟨j, rfl, _⟩ | ⟨j, rfl, h3, _⟩
      · unfold keptB
        dsimp only
        split
        · exact .inr ⟨n, rfl⟩
        · exact hP
      · have ea : j = i := ea
        subst ea
        rw [hw] at h3; cases h3) d.acts.length
    have e : (crashD d k).sure.getD i blank = (crashD d k).sure[i]'(by omega) := by rw [List.getD_eq_getElem?_getD, List.getElem?_eq_getElem (by omega)]; rfl
    rw [← e]
    exact this
  · have := crashN_P (fun b => b = b0 ∨ E[i]? = some true ∧ b.st = 2) d.sure d.told d.acts k i (.inl hsd) (fun a ha ea b n hP => by
      rcases h.acts a ha with ⟨j, rfl, h3⟩ | ⟨j, rfl, _, h4⟩
      · have ea : j = i := ea
        subst ea
        rw [hw] at h3; cases h3
      · have ea : j = i := ea
        subst ea
        unfold keptB
        dsimp only
        split
        · exact .inr ⟨h4, rfl⟩
        · exact hP) d.acts.length
    have e : (crashD d k).sure.getD i blank = (crashD d k).sure[i]'(by omega) := by rw [List.getD_eq_getElem?_getD, List.getElem?_eq_getElem (by omega)]; rfl
    rw [← e]
    exact this
/-- A part of a text. -/
theorem S_extract (l : List UInt8) (a b : Nat) : (S l).extract a b = S ((l.drop a).take (b - a)) := by
  apply ByteArray.ext
  rw [ByteArray.data_extract]
  simp [S]
/-- A torn text's sectors. -/
theorem torn_sector (g : Fin 128 → UInt8) (n : Int) (j : Nat) (hj : j < 4) : (S (txt (tornB g n))).extract (32 * j) (32 * j + 32) = (S (txt g)).extract (32 * j) (32 * j + 32) ∨ (S (txt (tornB g n))).extract (32 * j) (32 * j + 32) = S (List.replicate 32 0) := by
  rw [S_extract, S_extract, Nat.add_sub_cancel_left]
  by_cases hb : n / 2 ^ j % 2 = 1
  · left
    congr 1
    apply List.ext_getElem?
    intro i
    rw [List.getElem?_take, List.getElem?_take]
    split
    · rw [List.getElem?_drop, List.getElem?_drop]
      have h128 : 32 * j + i < 128 := by omega
      rw [txt_getElem _ _ h128, txt_getElem _ _ h128]
      congr 1
      show (if n / 2 ^ ((32 * j + i) / 32) % 2 = 1 then _ else _) = _
      rw [show (32 * j + i) / 32 = j by omega, if_pos hb]
    · rfl
  · right
    congr 1
    apply List.ext_getElem?
    intro i
    rw [List.getElem?_take, List.getElem?_replicate]
    split
    · rw [List.getElem?_drop]
      have h128 : 32 * j + i < 128 := by omega
      rw [txt_getElem _ _ h128]
      congr 1
      show (if n / 2 ^ ((32 * j + i) / 32) % 2 = 1 then _ else _) = _
      rw [show (32 * j + i) / 32 = j by omega, if_neg hb]
    · rfl
end Go.Proofs.Ythlaackalmgfnaa
