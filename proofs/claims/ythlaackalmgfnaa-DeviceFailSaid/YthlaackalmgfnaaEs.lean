/- A device on which a Fail is set beside one on which none is: plainly. -/
import Derived.Test.YthlaackalmgfnaaEq
namespace Go.Proofs.Ythlaackalmgfnaa
open Go.RowKit

/-- The same with a Fail set. -/
def wF (o : Dv) (n : Nat) (k : List Int) : Dv := { o with fail := some (n, k) }
/-- Does it count? -/
def cntB (o : Dv) (x : DoX) : Bool := decide (x.q % 13 = 7 ∨ x.q % 13 < 5 ∨ stAtD o x.i ≠ 2)
theorem doD_pos {o : Dv} (n : Nat) (k : List Int) (y : Ac) : doD (wF o (n + 1) k) y = (0, wF (actD o y) n k) := rfl
theorem doD_zero {o : Dv} (k : List Int) (y : Ac) : doD (wF o 0 k) y = (43, crashD (actD o y) k) := rfl
theorem failF_up {o : Dv} (hu : o.up = true) (n : Nat) (k : List Int) : failF o (n : Int) k = (0, wF o n k) := by
  unfold failF
  rw [if_neg (by rw [hu]; simp), if_neg (by omega), Int.toNat_natCast]
  rfl
theorem flush_zero {o : Dv} (hu : o.up = true) (k : List Int) : flushD (wF o 0 k) = (43, crashD o k) := by
  unfold flushD
  rw [if_neg (by show ¬ o.up = false; rw [hu]; simp)]
  rfl
theorem write_wF {o : Dv} (h : Wf o) (n : Nat) (k : List Int) (i : Int) (s : List UInt8) : ((writeD o i s).2 = o ∧ (writeD o i s).1 ≠ 0 ∧ writeD (wF o n k) i s = ((writeD o i s).1, wF o n k)) ∨ (writeD o i s = (0, actD o (.wr i.toNat (ofT s))) ∧ writeD (wF o n k) i s = doD (wF o n k) (.wr i.toNat (ofT s))) := by
  unfold writeD
  have e1 : (wF o n k).up = o.up := rfl
  have e2 : (wF o n k).sure = o.sure := rfl
  have e3 : stAtD (wF o n k) i = stAtD o i := rfl
  rw [e1, e2, e3]
  split
  · exact .inl ⟨rfl, by simp, rfl⟩
  · split
    · exact .inl ⟨rfl, by simp, rfl⟩
    · split
      · exact .inl ⟨rfl, by simp, rfl⟩
      · split
        · exact .inl ⟨rfl, by simp, rfl⟩
        · exact .inr ⟨(h.plain.act _).1, rfl⟩
theorem erase_wF {o : Dv} (h : Wf o) (n : Nat) (k : List Int) (i : Int) : ((eraseD o i).2 = o ∧ ((eraseD o i).1 ≠ 0 ∧ stAtD o i ≠ 2 ∨ (eraseD o i).1 = 0 ∧ stAtD o i = 2) ∧ eraseD (wF o n k) i = ((eraseD o i).1, wF o n k)) ∨ (eraseD o i = (0, actD o (.er i.toNat)) ∧ stAtD o i ≠ 2 ∧ eraseD (wF o n k) i = doD (wF o n k) (.er i.toNat)) ∨ (o.up = false ∧ (eraseD o i).2 = o) := by
  by_cases hu : o.up = false
  · exact .inr (.inr ⟨hu, by unfold eraseD; rw [if_pos hu]⟩)
  unfold eraseD
  have e1 : (wF o n k).up = o.up := rfl
  have e2 : (wF o n k).sure = o.sure := rfl
  have e3 : stAtD (wF o n k) i = stAtD o i := rfl
  rw [e1, e2, e3, if_neg hu, if_neg hu]
  split
  · rename_i hr
    refine .inl ⟨rfl, .inl ⟨by simp, ?_⟩, rfl⟩
    unfold stAtD
    by_cases h0 : 0 ≤ i
    · rw [if_pos h0, List.getElem?_eq_none (by rw [h.plain.len]; omega)]
      simp
    · rw [if_neg h0]; simp
  · split
    · rename_i h0
      exact .inl ⟨rfl, .inl ⟨by simp, by rw [h0]; simp⟩, rfl⟩
    · split
      · rename_i h2
        exact .inl ⟨rfl, .inr ⟨rfl, h2⟩, rfl⟩
      · rename_i h2
        exact .inr (.inl ⟨(h.plain.act _).1, h2, rfl⟩)
/-- With an act left, or more. -/
theorem fail_pos {o : Dv} (h : Wf o) (hu : o.up = true) (x : DoX) (hq : x.q % 13 ≤ 7) (n : Nat) (k : List Int) : withD (wF o (n + 1) k) x = ((withD o x).1, wF (withD o x).2 (if (withD o x).1 = 0 ∧ cntB o x = true then n else n + 1) k) := by
  have wr : ∀ s, x.q % 13 < 5 → writeD (wF o (n + 1) k) x.i s = ((writeD o x.i s).1, wF (writeD o x.i s).2 (if (writeD o x.i s).1 = 0 ∧ cntB o x = true then n else n + 1) k) := fun s hs => by
    have hc : cntB o x = true := by unfold cntB; exact decide_eq_true (.inr (.inl hs))
    rcases write_wF h (n + 1) k x.i s with ⟨h1, h2, h3⟩ | ⟨h1, h2⟩
    · rw [h3, h1, if_neg (by intro h4; exact h2 h4.1)]
    · rw [h2, h1, doD_pos, if_pos ⟨rfl, hc⟩]
  unfold withD
  by_cases h4 : x.q % 13 = 4
  · rw [if_pos h4, if_pos h4]; exact wr _ (by omega)
  rw [if_neg h4, if_neg h4]
  by_cases h5 : x.q % 13 = 5 ∨ x.q % 13 = 6
  · rw [if_pos h5, if_pos h5]
    rcases erase_wF h (n + 1) k x.i with ⟨h1, h2, h3⟩ | ⟨h1, h2, h3⟩ | ⟨h1, _⟩
    · rw [h3, h1]
      rcases h2 with ⟨h2, _⟩ | ⟨_, h2⟩
      · rw [if_neg (by intro h4; exact h2 h4.1)]
      · rw [if_neg]
        rintro ⟨_, hc⟩
        unfold cntB at hc
        have := of_decide_eq_true hc
        omega
    · rw [h3, h1, doD_pos, if_pos ⟨rfl, by unfold cntB; exact decide_eq_true (.inr (.inr h2))⟩]
    · rw [hu] at h1; cases h1
  rw [if_neg h5, if_neg h5]
  by_cases h7 : x.q % 13 = 7
  · rw [if_pos h7, if_pos h7, flush_eqD h hu, if_pos ⟨rfl, by unfold cntB; exact decide_eq_true (.inl h7)⟩]
    unfold flushD
    rw [if_neg (by show ¬ o.up = false; rw [hu]; simp)]
    rw [show failsD (wF o (n + 1) k) = (false, wF o n k) from rfl, if_neg (by simp)]
    have := h.flush_eq
    show ((0 : Int), sureD (wF o n k)) = (0, wF (flD o) n k)
    have e : sureD (wF o n k) = { wF o n k with sure := flushN o.sure o.told o.acts o.acts.length, acts := [] } := rfl
    rw [e, show flushN o.sure o.told o.acts o.acts.length = o.told from this]
    rfl
  rw [if_neg h7, if_neg h7, if_neg (by omega), if_neg (by omega), if_neg (by omega), if_neg (by omega), if_neg (by omega), if_neg (by omega)]
  exact wr _ (by omega)
/-- With none left: what does not count. -/
theorem fail_free {o : Dv} (h : Wf o) (hu : o.up = true) (x : DoX) (hq : x.q % 13 ≤ 7) (k : List Int) (hc : cntB o x = false) : withD (wF o 0 k) x = (0, wF o 0 k) ∧ withD o x = (0, o) := by
  unfold cntB at hc
  have hc := of_decide_eq_false hc
  have h5 : x.q % 13 = 5 ∨ x.q % 13 = 6 := by omega
  have h2 : stAtD o x.i = 2 := by omega
  unfold withD
  rw [if_neg (by omega), if_pos h5, if_neg (by omega), if_pos h5]
  rcases erase_wF h 0 k x.i with ⟨h1, h3, h4⟩ | ⟨_, h3, _⟩ | ⟨h1, _⟩
  · rcases h3 with ⟨_, h3⟩ | ⟨h3, _⟩
    · exact absurd h2 h3
    · rw [h4, h3]
      refine ⟨rfl, ?_⟩
      rw [show eraseD o x.i = ((eraseD o x.i).1, (eraseD o x.i).2) from rfl, h3, h1]
  · exact absurd h2 h3
  · rw [hu] at h1; cases h1
/-- With none left: what counts, but for a Flush. -/
theorem fail_zero {o : Dv} (h : Wf o) (hu : o.up = true) (x : DoX) (hq : x.q % 13 < 7) (k : List Int) (hc : cntB o x = true) : ((withD o x).1 ≠ 0 ∧ withD (wF o 0 k) x = ((withD o x).1, wF o 0 k) ∧ (withD o x).2 = o) ∨ ((withD o x).1 = 0 ∧ withD (wF o 0 k) x = (43, crashD (withD o x).2 k)) := by
  have wr : ∀ s, ((writeD o x.i s).1 ≠ 0 ∧ writeD (wF o 0 k) x.i s = ((writeD o x.i s).1, wF o 0 k) ∧ (writeD o x.i s).2 = o) ∨ ((writeD o x.i s).1 = 0 ∧ writeD (wF o 0 k) x.i s = (43, crashD (writeD o x.i s).2 k)) := fun s => by
    rcases write_wF h 0 k x.i s with ⟨h1, h2, h3⟩ | ⟨h1, h2⟩
    · exact .inl ⟨h2, h3, h1⟩
    · rw [h1, h2, doD_zero]; exact .inr ⟨rfl, rfl⟩
  unfold withD
  by_cases h4 : x.q % 13 = 4
  · rw [if_pos h4, if_pos h4]; exact wr _
  rw [if_neg h4, if_neg h4]
  by_cases h5 : x.q % 13 = 5 ∨ x.q % 13 = 6
  · rw [if_pos h5, if_pos h5]
    unfold cntB at hc
    have hc := of_decide_eq_true hc
    rcases erase_wF h 0 k x.i with ⟨h1, h2, h3⟩ | ⟨h1, h2, h3⟩ | ⟨h1, _⟩
    · rcases h2 with ⟨h2, _⟩ | ⟨_, h2⟩
      · exact .inl ⟨h2, h3, h1⟩
      · omega
    · rw [h1, h3, doD_zero]; exact .inr ⟨rfl, rfl⟩
    · rw [hu] at h1; cases h1
  rw [if_neg h5, if_neg h5, if_neg (by omega), if_neg (by omega), if_neg (by omega), if_neg (by omega), if_neg (by omega), if_neg (by omega), if_neg (by omega), if_neg (by omega)]
  exact wr _
end Go.Proofs.Ythlaackalmgfnaa
