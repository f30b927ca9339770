/- What stands of a device without Fails, plainly; how many acts are under way. -/
import Derived.Test.YthlaackalmgfnabEg
namespace Go.Proofs.Ythlaackalmgfnab
open Go.RowKit

/-- No Fail is set; each block is blank, written or gone. -/
structure Plain (d : Dv) : Prop where
  fail : d.fail = none
  len : d.told.length = d.sure.length
  told : ∀ b ∈ d.told, b.st ≤ 2
  sure : ∀ b ∈ d.sure, b.st ≤ 2
theorem keptB_st (b : Blk) (x : Ac) (n : Int) (h : b.st ≤ 2) : (keptB b x n).st ≤ 2 := by
  rcases x with ⟨⟨i, g⟩ | i⟩
  · unfold keptB
    dsimp only
    split
    · exact (by decide : (1 : Nat) ≤ 2)
    · exact h
  · unfold keptB
    dsimp only
    split
    · exact Nat.le_refl _
    · exact h
theorem getD_st (l : List Blk) (i : Nat) (h : ∀ b ∈ l, b.st ≤ 2) : (l.getD i blank).st ≤ 2 := by
  rw [List.getD_eq_getElem?_getD]
  cases hq : l[i]? with
  | none => exact (by decide : (0 : Nat) ≤ 2)
  | some b => exact h b (List.mem_of_getElem? hq)
theorem set_st (l : List Blk) (i : Nat) (b : Blk) (h : ∀ b ∈ l, b.st ≤ 2) (hb : b.st ≤ 2) : ∀ c ∈ l.set i b, c.st ≤ 2 := fun c hc => by
  rcases List.mem_or_eq_of_mem_set hc with hc | hc
  · exact h c hc
  · rw [hc]; exact hb
theorem failsD_none {d : Dv} (h : d.fail = none) : failsD d = (false, d) := by unfold failsD; rw [h]
theorem endD_none {d : Dv} (h : d.fail = none) : endD d = (0, d) := by unfold endD; rw [failsD_none h]; rfl
theorem Plain.act {d : Dv} (h : Plain d) (x : Ac) : doD d x = (0, actD d x) ∧ Plain (actD d x) := by
  refine ⟨endD_none h.fail, ⟨h.fail, by simp [actD, h.len], ?_, h.sure⟩⟩
  exact set_st _ _ _ h.told (keptB_st _ _ _ (getD_st _ _ h.told))
theorem crashN_st (s t : List Blk) (acts : List Ac) (k : List Int) (hs : ∀ b ∈ s, b.st ≤ 2) (ht : ∀ b ∈ t, b.st ≤ 2) : ∀ m, (∀ b ∈ (crashN s t acts k m).1, b.st ≤ 2) ∧ ∀ b ∈ (crashN s t acts k m).2, b.st ≤ 2
  | 0 => ⟨hs, ht⟩
  | m + 1 => by
    obtain ⟨h1, h2⟩ := crashN_st s t acts k hs ht m
    unfold crashN
    cases acts[m]? with
    | none => exact ⟨h1, h2⟩
    | some x =>
      have hb := keptB_st _ x (k.getD m 0) (getD_st _ x.at_ h1)
      exact ⟨set_st _ _ _ h1 hb, set_st _ _ _ h2 hb⟩
theorem flushN_st (s t : List Blk) (acts : List Ac) (hs : ∀ b ∈ s, b.st ≤ 2) (ht : ∀ b ∈ t, b.st ≤ 2) : ∀ m, ∀ b ∈ flushN s t acts m, b.st ≤ 2
  | 0 => hs
  | m + 1 => by
    have h1 := flushN_st s t acts hs ht m
    unfold flushN
    cases acts[m]? with
    | none => exact h1
    | some x => exact set_st _ _ _ h1 (getD_st _ _ ht)
theorem Plain.crash {d : Dv} (h : Plain d) (k : List Int) : Plain (crashD d k) := by
  obtain ⟨h1, h2⟩ := crashN_st d.sure d.told d.acts k h.sure h.told d.acts.length
  obtain ⟨l1, l2⟩ := crashN_len d.sure d.told d.acts k d.acts.length
  exact ⟨rfl, by show (crashN d.sure d.told d.acts k d.acts.length).2.length = (crashN d.sure d.told d.acts k d.acts.length).1.length; rw [l1, l2, h.len], h2, h1⟩
theorem Plain.sureD {d : Dv} (h : Plain d) : Plain (sureD d) :=
  ⟨h.fail, by show d.told.length = (flushN d.sure d.told d.acts d.acts.length).length; rw [flushN_len, h.len], h.told, flushN_st _ _ _ h.sure h.told _⟩
theorem Plain.new (n : Nat) : Plain (newD n) := ⟨rfl, rfl, fun b hb => by have := List.eq_of_mem_replicate hb; rw [this]; decide, fun b hb => by have := List.eq_of_mem_replicate hb; rw [this]; decide⟩
/-- How many acts are under way behind one thing more. -/
theorem withD_pend {d : Dv} (h : Plain d) (x : DoX) (hq : x.q % 13 < 11) : Plain (withD d x).2 ∧ (withD d x).2.acts.length =
    (if (withD d x).1 = 0 then
      if x.q % 13 < 5 then d.acts.length + 1
      else if x.q % 13 = 5 ∨ x.q % 13 = 6 then if stAtD d x.i = 1 then d.acts.length + 1 else d.acts.length
      else if x.q % 13 = 7 ∨ x.q % 13 = 8 then 0 else d.acts.length
    else d.acts.length) := by
  have wr : ∀ s, Plain (writeD d x.i s).2 ∧ (writeD d x.i s).2.acts.length = (if (writeD d x.i s).1 = 0 then d.acts.length + 1 else d.acts.length) := fun s => by
    unfold writeD
    split
    · exact ⟨h, rfl⟩
    · split
      · exact ⟨h, rfl⟩
      · split
        · exact ⟨h, rfl⟩
        · split
          · exact ⟨h, rfl⟩
          · obtain ⟨e, hp⟩ := h.act (.wr x.i.toNat (ofT s))
            rw [e]
            exact ⟨hp, by simp [actD]⟩
  unfold withD
  by_cases h4 : x.q % 13 = 4
  · rw [if_pos h4]
    obtain ⟨k1, k2⟩ := wr x.s
    refine ⟨k1, k2.trans ?_⟩
    rw [if_pos (show x.q % 13 < 5 by omega)]
  · rw [if_neg h4]
    by_cases h5 : x.q % 13 = 5 ∨ x.q % 13 = 6
    · rw [if_pos h5]
      rw [if_neg (show ¬ x.q % 13 < 5 by omega), if_pos h5]
      unfold eraseD
      split
      · exact ⟨h, rfl⟩
      · split
        · exact ⟨h, rfl⟩
        · rename_i hr
          split
          · exact ⟨h, rfl⟩
          · split
            · rename_i h2
              refine ⟨h, ?_⟩
              rw [if_pos rfl, if_neg (by omega)]
            · rename_i h0 h2
              obtain ⟨e, hp⟩ := h.act (.er x.i.toNat)
              rw [e]
              refine ⟨hp, ?_⟩
              have hst : stAtD d x.i = 1 := by
                have hr2 : 0 ≤ x.i ∧ x.i < d.sure.length := Classical.not_not.1 hr
                have hl : x.i.toNat < d.told.length := by rw [h.len]; omega
                have e1 : stAtD d x.i = (d.told[x.i.toNat].st : Int) := by
                  unfold stAtD
                  rw [if_pos hr2.1, List.getElem?_eq_getElem hl]; rfl
                have h3 := h.told _ (List.getElem_mem hl)
                omega
              rw [if_pos rfl, if_pos hst]
              simp [actD]
    · rw [if_neg h5]
      by_cases h7 : x.q % 13 = 7
      · rw [if_pos h7, if_neg (show ¬ x.q % 13 < 5 by omega), if_neg h5, if_pos (show x.q % 13 = 7 ∨ x.q % 13 = 8 by omega)]
        unfold flushD
        split
        · exact ⟨h, rfl⟩
        · rw [failsD_none h.fail]
          exact ⟨h.sureD, rfl⟩
      · rw [if_neg h7]
        by_cases h8 : x.q % 13 = 8
        · rw [if_pos h8, if_neg (show ¬ x.q % 13 < 5 by omega), if_neg h5, if_pos (show x.q % 13 = 7 ∨ x.q % 13 = 8 by omega)]
          unfold crashE
          split
          · exact ⟨h, rfl⟩
          · exact ⟨h.crash _, rfl⟩
        · rw [if_neg h8]
          by_cases h9 : x.q % 13 = 9 ∨ x.q % 13 = 10
          · rw [if_pos h9, if_neg (show ¬ x.q % 13 < 5 by omega), if_neg h5, if_neg (show ¬ (x.q % 13 = 7 ∨ x.q % 13 = 8) by omega)]
            unfold startD
            split
            · exact ⟨h, rfl⟩
            · exact ⟨⟨h.fail, h.len, h.told, h.sure⟩, rfl⟩
          · rw [if_neg h9, if_neg (show ¬ x.q % 13 = 11 by omega)]
            obtain ⟨k1, k2⟩ := wr (blockT x.s)
            refine ⟨k1, k2.trans ?_⟩
            rw [if_pos (show x.q % 13 < 5 by omega)]
theorem afterN_plain (n : Nat) (xs : List DoX) : ∀ m, Plain (afterN n xs m)
  | 0 => Plain.new _
  | m + 1 => by
    have h := afterN_plain n xs m
    unfold afterN
    cases xs[m]? with
    | none => exact h
    | some x =>
      dsimp only
      split
      · rename_i hq
        exact (withD_pend h x hq).1
      · exact h
end Go.Proofs.Ythlaackalmgfnab
