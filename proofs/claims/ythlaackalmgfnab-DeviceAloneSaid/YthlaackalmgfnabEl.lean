/- How a device behaves, plainly: what is told is what is sure with all acts. -/
import Derived.Test.YthlaackalmgfnabEj
namespace Go.Proofs.Ythlaackalmgfnab
open Go.RowKit

/-- Blocks by an act, of which all is kept. -/
def stepT (s : List Blk) (x : Ac) : List Blk := s.set x.at_ (keptB (s.getD x.at_ blank) x 15)
/-- Blocks by acts. -/
def tell (s : List Blk) (acts : List Ac) : List Blk := acts.foldl stepT s
theorem stepT_len (s : List Blk) (x : Ac) : (stepT s x).length = s.length := by simp [stepT]
theorem tell_len : ∀ (acts : List Ac) (s : List Blk), (tell s acts).length = s.length
  | [], _ => rfl
  | x :: l, s => by
    show (tell (stepT s x) l).length = _
    rw [tell_len l, stepT_len]
theorem tell_snoc (s : List Blk) (acts : List Ac) (x : Ac) : tell s (acts ++ [x]) = stepT (tell s acts) x := by simp [tell]
theorem stepT_off (s : List Blk) (x : Ac) (i : Nat) (h : x.at_ ≠ i) : (stepT s x)[i]? = s[i]? := by
  unfold stepT
  rw [List.getElem?_set_ne h]
theorem tell_off : ∀ (acts : List Ac) (s : List Blk) (i : Nat), (∀ a ∈ acts, a.at_ ≠ i) → (tell s acts)[i]? = s[i]?
  | [], _, _, _ => rfl
  | x :: l, s, i, h => by
    show (tell (stepT s x) l)[i]? = _
    rw [tell_off l _ i (fun a ha => h a (List.mem_cons_of_mem _ ha)), stepT_off _ _ _ (h x (List.mem_cons_self ..))]
/-- Acts that could be done, one behind the other. -/
def May (s : List Blk) : Ac → Prop
  | ⟨.inl (i, _)⟩ => (s.getD i blank).st = 0
  | ⟨.inr i⟩ => (s.getD i blank).st = 1
def Legit (s : List Blk) (acts : List Ac) : Prop := ∀ j x, acts[j]? = some x → x.at_ < s.length ∧ May (tell s (acts.take j)) x
theorem Legit.nil (s : List Blk) : Legit s [] := fun j x h => by simp at h
theorem Legit.snoc {s : List Blk} {acts : List Ac} (h : Legit s acts) {x : Ac} (hx : x.at_ < s.length) (hm : May (tell s acts) x) : Legit s (acts ++ [x]) := fun j y hj => by
  by_cases hl : j < acts.length
  · rw [List.getElem?_append_left hl] at hj
    rw [List.take_append_of_le_length (by omega)]
    exact h j y hj
  · have hj2 : j = acts.length := by have := (List.getElem?_eq_some_iff.1 hj).1; simp at this; omega
    subst hj2
    simp at hj
    subst hj
    rw [List.take_left' rfl]
    exact ⟨hx, hm⟩
theorem stepT_on (s : List Blk) (x : Ac) (h : x.at_ < s.length) : (stepT s x).getD x.at_ blank = keptB (s.getD x.at_ blank) x 15 := by
  unfold stepT
  rw [List.getD_eq_getElem?_getD, List.getElem?_set_self h]
  rfl
theorem getD_off {s t : List Blk} {i : Nat} (h : s[i]? = t[i]?) : s.getD i blank = t.getD i blank := by rw [List.getD_eq_getElem?_getD, List.getD_eq_getElem?_getD, h]
theorem may_mono {s : List Blk} {x : Ac} (h : x.at_ < s.length) (hm : May s x) (i : Nat) : (s.getD i blank).st ≤ ((stepT s x).getD i blank).st := by
  by_cases e : x.at_ = i
  · subst e
    rw [stepT_on s x h]
    rcases x with ⟨⟨i, g⟩ | i⟩
    · have hm : (s.getD i blank).st = 0 := hm
      show (s.getD i blank).st ≤ _
      omega
    · have hm : (s.getD i blank).st = 1 := hm
      show (s.getD i blank).st ≤ (2 : Nat)
      omega
  · rw [getD_off (stepT_off s x i e)]
    exact Nat.le_refl _
theorem Legit.mono {s : List Blk} {acts : List Ac} (h : Legit s acts) (i : Nat) : ∀ m, (s.getD i blank).st ≤ ((tell s (acts.take m)).getD i blank).st
  | 0 => Nat.le_refl _
  | m + 1 => by
    have ih := Legit.mono h i m
    rw [List.take_add_one]
    cases hx : acts[m]? with
    | none => simpa using ih
    | some x =>
      obtain ⟨h1, h2⟩ := h m x hx
      show _ ≤ ((tell s (acts.take m ++ [x])).getD i blank).st
      rw [tell_snoc]
      exact Nat.le_trans ih (may_mono (by rw [tell_len]; exact h1) h2 i)
theorem Legit.gone {s : List Blk} {acts : List Ac} (h : Legit s acts) {i : Nat} (hi : (s.getD i blank).st = 2) : ∀ a ∈ acts, a.at_ ≠ i := fun a ha e => by
  obtain ⟨j, hj⟩ := List.getElem?_of_mem ha
  obtain ⟨h1, h2⟩ := h j a hj
  have h3 := h.mono i j
  rcases a with ⟨⟨k, g⟩ | k⟩
  · have h2 : ((tell s (acts.take j)).getD k blank).st = 0 := h2; have e : k = i := e; subst e; omega
  · have h2 : ((tell s (acts.take j)).getD k blank).st = 1 := h2; have e : k = i := e; subst e; omega
theorem Legit.written {s : List Blk} {acts : List Ac} (h : Legit s acts) {i : Nat} (hi : (s.getD i blank).st = 1) : ∀ a ∈ acts, a.at_ = i → a = .er i := fun a ha e => by
  obtain ⟨j, hj⟩ := List.getElem?_of_mem ha
  obtain ⟨h1, h2⟩ := h j a hj
  have h3 := h.mono i j
  rcases a with ⟨⟨k, g⟩ | k⟩
  · have h2 : ((tell s (acts.take j)).getD k blank).st = 0 := h2; have e : k = i := e; subst e; omega
  · have e : k = i := e; subst e; rfl
/-- A device as it comes about without a Fail and without tampering. -/
structure Wf (d : Dv) : Prop where
  plain : Plain d
  tl : d.told = tell d.sure d.acts
  lg : Legit d.sure d.acts
theorem Wf.new (n : Nat) : Wf (newD n) := ⟨Plain.new n, rfl, Legit.nil _⟩
theorem Wf.act {d : Dv} (h : Wf d) {x : Ac} (hx : x.at_ < d.sure.length) (hm : May d.told x) : Wf (actD d x) := by
  refine ⟨(h.plain.act x).2, ?_, ?_⟩
  · show d.told.set x.at_ (keptB (d.told.getD x.at_ blank) x 15) = tell d.sure (d.acts ++ [x])
    rw [tell_snoc, ← h.tl]
    rfl
  · exact h.lg.snoc hx (by rw [← h.tl]; exact hm)
/-- What a crash leaves of a block, by a property that acts on it keep. -/
theorem crashN_P (P : Blk → Prop) (s t : List Blk) (acts : List Ac) (k : List Int) (i : Nat) (hs : P (s.getD i blank)) (hk : ∀ a ∈ acts, a.at_ = i → ∀ b n, P b → P (keptB b a n)) : ∀ m, P ((crashN s t acts k m).1.getD i blank)
  | 0 => hs
  | m + 1 => by
    have ih := crashN_P P s t acts k i hs hk m
    cases hx : acts[m]? with
    | none => rw [crashN, hx]; exact ih
    | some x =>
      rw [crashN_succ s t acts k m x hx _ rfl]
      show P ((((crashN s t acts k m).1).set x.at_ _).getD i blank)
      by_cases e : x.at_ = i
      · subst e
        rw [List.getD_eq_getElem?_getD]
        by_cases hl : x.at_ < (crashN s t acts k m).1.length
        · rw [List.getElem?_set_self hl]
          exact hk x (List.mem_of_getElem? hx) rfl _ _ ih
        · rw [List.getElem?_eq_none (by simp; omega)]
          rw [List.getD_eq_getElem?_getD, List.getElem?_eq_none (by omega)] at ih
          exact ih
      · rw [getD_off (List.getElem?_set_ne e)]
        exact ih
theorem crashN_off (s t : List Blk) (acts : List Ac) (k : List Int) (i : Nat) (h : ∀ a ∈ acts, a.at_ ≠ i) : ∀ m, (crashN s t acts k m).1[i]? = s[i]? ∧ (crashN s t acts k m).2[i]? = t[i]?
  | 0 => ⟨rfl, rfl⟩
  | m + 1 => by
    obtain ⟨h1, h2⟩ := crashN_off s t acts k i h m
    cases hx : acts[m]? with
    | none => rw [crashN, hx]; exact ⟨h1, h2⟩
    | some x =>
      rw [crashN_succ s t acts k m x hx _ rfl]
      have hne := h x (List.mem_of_getElem? hx)
      exact ⟨by show (List.set _ _ _)[i]? = _; rw [List.getElem?_set_ne hne, h1], by show (List.set _ _ _)[i]? = _; rw [List.getElem?_set_ne hne, h2]⟩
theorem crashN_same (s t : List Blk) (acts : List Ac) (k : List Int) (hl : t.length = s.length) (i : Nat) : ∀ m, (s[i]? = t[i]? ∨ ∃ j x, j < m ∧ acts[j]? = some x ∧ x.at_ = i) → (crashN s t acts k m).1[i]? = (crashN s t acts k m).2[i]?
  | 0, h => by
    rcases h with h | ⟨j, x, hj, _⟩
    · exact h
    · omega
  | m + 1, h => by
    obtain ⟨l1, l2⟩ := crashN_len s t acts k m
    cases hx : acts[m]? with
    | none =>
      rw [crashN, hx]
      refine crashN_same s t acts k hl i m ?_
      rcases h with h | ⟨j, x, hj, hjx, he⟩
      · exact .inl h
      · refine .inr ⟨j, x, ?_, hjx, he⟩
        rcases Nat.lt_or_ge j m with h | h
        · exact h
        · obtain rfl : j = m := by omega
          rw [hx] at hjx; cases hjx
    | some y =>
      rw [crashN_succ s t acts k m y hx _ rfl]
      show (List.set _ _ _)[i]? = (List.set _ _ _)[i]?
      by_cases e : y.at_ = i
      · subst e
        rw [List.getElem?_set_self', List.getElem?_set_self']
        by_cases hlt : y.at_ < s.length
        · rw [List.getElem?_eq_getElem (by omega), List.getElem?_eq_getElem (by omega)]
          rfl
        · rw [List.getElem?_eq_none (by omega), List.getElem?_eq_none (by omega)]
      · rw [List.getElem?_set_ne e, List.getElem?_set_ne e]
        refine crashN_same s t acts k hl i m ?_
        rcases h with h | ⟨j, x, hj, hjx, he⟩
        · exact .inl h
        · refine .inr ⟨j, x, ?_, hjx, he⟩
          rcases Nat.lt_or_ge j m with h | h
          · exact h
          · obtain rfl : j = m := by omega
            rw [hx] at hjx
            cases hjx
            exact absurd he e
theorem Wf.off {d : Dv} (h : Wf d) (i : Nat) (hi : ∀ a ∈ d.acts, a.at_ ≠ i) : d.told[i]? = d.sure[i]? := by rw [h.tl]; exact tell_off _ _ _ hi
theorem on_or_off (acts : List Ac) (i : Nat) : (∀ a ∈ acts, a.at_ ≠ i) ∨ ∃ j x, j < acts.length ∧ acts[j]? = some x ∧ x.at_ = i := by
  by_cases h : ∃ a ∈ acts, a.at_ = i
  · obtain ⟨a, ha, e⟩ := h
    obtain ⟨j, hj⟩ := List.getElem?_of_mem ha
    exact .inr ⟨j, a, (List.getElem?_eq_some_iff.1 hj).1, hj, e⟩
  · exact .inl fun a ha e => h ⟨a, ha, e⟩
/-- Behind a crash what is told is what is sure. -/
theorem Wf.crash_eq {d : Dv} (h : Wf d) (k : List Int) : (crashD d k).told = (crashD d k).sure := by
  apply List.ext_getElem?
  intro i
  refine (crashN_same d.sure d.told d.acts k h.plain.len i d.acts.length ?_).symm
  rcases on_or_off d.acts i with hi | hi
  · exact .inl (h.off i hi).symm
  · exact .inr hi
theorem Wf.crash {d : Dv} (h : Wf d) (k : List Int) : Wf (crashD d k) := ⟨h.plain.crash k, h.crash_eq k, Legit.nil _⟩
theorem flushN_get (s t : List Blk) (acts : List Ac) (hl : t.length = s.length) (i : Nat) : ∀ m, (s[i]? = t[i]? ∨ ∃ j x, j < m ∧ acts[j]? = some x ∧ x.at_ = i) → (flushN s t acts m)[i]? = t[i]?
  | 0, h => by
    rcases h with h | ⟨j, x, hj, _⟩
    · exact h
    · omega
  | m + 1, h => by
    have l1 := flushN_len s t acts m
    cases hx : acts[m]? with
    | none =>
      rw [flushN, hx]
      refine flushN_get s t acts hl i m ?_
      rcases h with h | ⟨j, x, hj, hjx, he⟩
      · exact .inl h
      · refine .inr ⟨j, x, ?_, hjx, he⟩
        rcases Nat.lt_or_ge j m with h | h
        · exact h
        · obtain rfl : j = m := by omega
          rw [hx] at hjx; cases hjx
    | some y =>
      rw [flushN_succ s t acts m y hx _ rfl]
      by_cases e : y.at_ = i
      · subst e
        rw [List.getElem?_set_self', List.getD_eq_getElem?_getD]
        by_cases hlt : y.at_ < s.length
        · rw [List.getElem?_eq_getElem (by omega), List.getElem?_eq_getElem (by omega)]
          rfl
        · rw [List.getElem?_eq_none (by omega), List.getElem?_eq_none (by omega)]
          rfl
      · rw [List.getElem?_set_ne e]
        refine flushN_get s t acts hl i m ?_
        rcases h with h | ⟨j, x, hj, hjx, he⟩
        · exact .inl h
        · refine .inr ⟨j, x, ?_, hjx, he⟩
          rcases Nat.lt_or_ge j m with h | h
          · exact h
          · obtain rfl : j = m := by omega
            rw [hx] at hjx
            cases hjx
            exact absurd he e
/-- Behind a Flush what is sure is what is told. -/
theorem Wf.flush_eq {d : Dv} (h : Wf d) : (sureD d).sure = d.told := by
  apply List.ext_getElem?
  intro i
  refine flushN_get d.sure d.told d.acts h.plain.len i d.acts.length ?_
  rcases on_or_off d.acts i with hi | hi
  · exact .inl (h.off i hi).symm
  · exact .inr hi
theorem Wf.sureD {d : Dv} (h : Wf d) : Wf (sureD d) := ⟨h.plain.sureD, h.flush_eq.symm, Legit.nil _⟩
theorem sureD_eq {d : Dv} (h : Wf d) : sureD d = { d with sure := d.told, acts := [] } := by
  have := h.flush_eq
  unfold Go.Proofs.Ythlaackalmgfnab.sureD at *
  rw [show flushN d.sure d.told d.acts d.acts.length = d.told from this]
theorem crashD_none {d : Dv} (h : d.acts = []) (k : List Int) : crashD d k = { d with acts := [], up := false, fail := none } := by
  unfold crashD
  rw [h]
  rfl
theorem stAt_get {d : Dv} (h : Plain d) {i : Int} (h0 : 0 ≤ i) (h1 : i < d.sure.length) : stAtD d i = ((d.told.getD i.toNat blank).st : Int) := by
  have hl : i.toNat < d.told.length := by rw [h.len]; omega
  unfold stAtD
  rw [if_pos h0, List.getD_eq_getElem?_getD, List.getElem?_eq_getElem hl]
  rfl
/-- What a write does. -/
theorem Wf.write {d : Dv} (h : Wf d) (i : Int) (s : List UInt8) : (writeD d i s).2 = d ∧ (writeD d i s).1 ≠ 0 ∨ writeD d i s = (0, actD d (.wr i.toNat (ofT s))) ∧ d.up = true ∧ 0 ≤ i ∧ i < d.sure.length ∧ s.length = 128 ∧ (d.told.getD i.toNat blank).st = 0 := by
  unfold writeD
  split
  · exact .inl ⟨rfl, by simp⟩
  · rename_i hu
    split
    · exact .inl ⟨rfl, by simp⟩
    · rename_i hr
      have hr2 : (0 ≤ i ∧ i < d.sure.length) ∧ s.length = 128 := ⟨Classical.not_not.1 fun h => hr (.inl h), Classical.not_not.1 fun h => hr (.inr h)⟩
      split
      · exact .inl ⟨rfl, by simp⟩
      · rename_i h1
        split
        · exact .inl ⟨rfl, by simp⟩
        · rename_i h2
          rw [stAt_get h.plain hr2.1.1 hr2.1.2] at h1 h2
          have h3 := getD_st d.told i.toNat h.plain.told
          rw [(h.plain.act _).1]
          exact .inr ⟨rfl, by simpa using hu, hr2.1.1, hr2.1.2, hr2.2, by omega⟩
/-- What an erasure does. -/
theorem Wf.erase {d : Dv} (h : Wf d) (i : Int) : (eraseD d i).2 = d ∧ ((eraseD d i).1 = 0 → d.up = true ∧ 0 ≤ i ∧ i < d.sure.length ∧ (d.told.getD i.toNat blank).st = 2) ∨ eraseD d i = (0, actD d (.er i.toNat)) ∧ d.up = true ∧ 0 ≤ i ∧ i < d.sure.length ∧ (d.told.getD i.toNat blank).st = 1 := by
  unfold eraseD
  split
  · exact .inl ⟨rfl, fun h => by simp at h⟩
  · rename_i hu
    split
    · exact .inl ⟨rfl, fun h => by simp at h⟩
    · rename_i hr
      have hr2 : 0 ≤ i ∧ i < d.sure.length := Classical.not_not.1 hr
      split
      · exact .inl ⟨rfl, fun h => by simp at h⟩
      · rename_i h1
        split
        · rename_i h2
          rw [stAt_get h.plain hr2.1 hr2.2] at h2
          exact .inl ⟨rfl, fun _ => ⟨by simpa using hu, hr2.1, hr2.2, by omega⟩⟩
        · rename_i h2
          rw [stAt_get h.plain hr2.1 hr2.2] at h1 h2
          have h3 := getD_st d.told i.toNat h.plain.told
          rw [(h.plain.act _).1]
          exact .inr ⟨rfl, by simpa using hu, hr2.1, hr2.2, by omega⟩
theorem Wf.flush {d : Dv} (h : Wf d) : flushD d = (if d.up then (0, Go.Proofs.Ythlaackalmgfnab.sureD d) else (43, d)) := by
  unfold flushD
  rw [failsD_none h.plain.fail]
  cases d.up <;> rfl
theorem Wf.start {d : Dv} (h : Wf d) : Wf (startD d).2 := by
  unfold startD
  split
  · exact h
  · exact ⟨⟨h.plain.fail, h.plain.len, h.plain.told, h.plain.sure⟩, h.tl, h.lg⟩
theorem Wf.write' {d : Dv} (h : Wf d) (i : Int) (s : List UInt8) : Wf (writeD d i s).2 := by
  rcases h.write i s with ⟨h1, _⟩ | ⟨h1, _, h3, h4, _, h6⟩
  · rw [h1]; exact h
  · rw [h1]; exact h.act (by show i.toNat < _; omega) h6
theorem Wf.erase' {d : Dv} (h : Wf d) (i : Int) : Wf (eraseD d i).2 := by
  rcases h.erase i with ⟨h1, _⟩ | ⟨h1, _, h3, h4, h6⟩
  · rw [h1]; exact h
  · rw [h1]; exact h.act (by show i.toNat < _; omega) h6
theorem Wf.flush' {d : Dv} (h : Wf d) : Wf (flushD d).2 := by
  rw [h.flush]
  split
  · exact h.sureD
  · exact h
theorem Wf.crash' {d : Dv} (h : Wf d) (k : List Int) : Wf (crashE d k).2 := by
  unfold crashE
  split
  · exact h
  · exact h.crash k
theorem Wf.withD {d : Dv} (h : Wf d) (x : DoX) (hq : x.q % 13 < 11) : Wf (withD d x).2 := by
  unfold Go.Proofs.Ythlaackalmgfnab.withD
  split
  · exact h.write' _ _
  · split
    · exact h.erase' _
    · split
      · exact h.flush'
      · split
        · exact h.crash' _
        · split
          · exact h.start
          · split
            · omega
            · exact h.write' _ _
theorem afterN_wf (n : Nat) (xs : List DoX) : ∀ m, Wf (afterN n xs m)
  | 0 => Wf.new _
  | m + 1 => by
    have h := afterN_wf n xs m
    unfold afterN
    cases xs[m]? with
    | none => exact h
    | some x =>
      dsimp only
      split
      · rename_i hq
        exact h.withD x hq
      · exact h
theorem afterD_wf (n : Nat) (xs : List DoX) : Wf (afterD n xs) := by
  unfold afterD
  split
  · exact afterN_wf n xs _
  · exact (afterN_wf n xs _).start
theorem afterD_up (n : Nat) (xs : List DoX) : (afterD n xs).up = true := by
  unfold afterD
  split
  · assumption
  · unfold startD
    rename_i h
    rw [if_neg h]
theorem afterD_few (n : Nat) (xs : List DoX) : (afterD n xs).acts.length ≤ xs.length ∧ (afterD n xs).starts ≤ xs.length + 1 := by
  obtain ⟨h1, h2⟩ := afterN_few n xs xs.length
  unfold afterD
  split
  · exact ⟨h1, by omega⟩
  · unfold startD
    rename_i h
    rw [if_neg h]
    exact ⟨h1, by show _ + 1 ≤ _; omega⟩
end Go.Proofs.Ythlaackalmgfnab
