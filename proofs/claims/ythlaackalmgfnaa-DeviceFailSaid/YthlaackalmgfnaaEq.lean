/- A block goes from blank to written, and from written to gone: plainly. -/
import Derived.Test.YthlaackalmgfnaaEp
namespace Go.Proofs.Ythlaackalmgfnaa
open Go.RowKit

/-- At most the block i turned, by one. -/
structure Stp (d d' : Dv) (e : Int) (i : Nat) (fl : Bool) : Prop where
  off : ∀ j : Nat, j ≠ i ∨ fl = false → d'.told[j]? = d.told[j]?
  on : fl = true → e = 0 ∧ ∃ b b' : Blk, d.told[i]? = some b ∧ d'.told[i]? = some b' ∧ b'.st = b.st + 1 ∧ b'.st ≤ 2
  wf : Wf d'
  up : d'.up = true
  starts : d'.starts = d.starts
  few : d'.acts.length ≤ d.acts.length + 1
  len : d'.told.length = d.told.length
theorem once_step {d : Dv} (h : Wf d) (hu : d.up = true) (x : DoX) (hq : x.q % 13 ≤ 7) : ∃ i fl, Stp d (withD d x).2 (withD d x).1 i fl := by
  have same : ∀ e, Stp d d e 0 false := fun e => ⟨fun _ _ => rfl, fun hf => (by cases hf), h, hu, rfl, Nat.le_succ _, rfl⟩
  have act : ∀ y : Ac, y.at_ < d.sure.length → May d.told y → Stp d (actD d y) 0 y.at_ true := fun y hy hm => by
    have hl : y.at_ < d.told.length := by rw [h.plain.len]; exact hy
    refine ⟨fun j hj => ?_, fun _ => ⟨rfl, d.told[y.at_], keptB d.told[y.at_] y 15, List.getElem?_eq_getElem hl, ?_, ?_⟩, h.act hy hm, hu, rfl, by simp [actD], by simp [actD]⟩
    · show (d.told.set y.at_ _)[j]? = _
      rw [List.getElem?_set_ne (by rcases hj with hj | hj; exact fun e => hj e.symm; cases hj)]
    · show (d.told.set y.at_ _)[y.at_]? = _
      rw [List.getElem?_set_self hl, List.getD_eq_getElem?_getD, List.getElem?_eq_getElem hl]; rfl
    · rcases y with ⟨⟨i, g⟩ | i⟩
      · have hl : i < d.told.length := hl
        have hm : (d.told.getD i blank).st = 0 := hm
        rw [List.getD_eq_getElem?_getD, List.getElem?_eq_getElem hl] at hm
        have hm : d.told[i].st = 0 := hm
        show (1 : Nat) = d.told[i].st + 1 ∧ (1 : Nat) ≤ 2
        omega
      · have hl : i < d.told.length := hl
        have hm : (d.told.getD i blank).st = 1 := hm
        rw [List.getD_eq_getElem?_getD, List.getElem?_eq_getElem hl] at hm
        have hm : d.told[i].st = 1 := hm
        show (2 : Nat) = d.told[i].st + 1 ∧ (2 : Nat) ≤ 2
        omega
  have wr : ∀ t, ∃ i fl, Stp d (writeD d x.i t).2 (writeD d x.i t).1 i fl := fun t => by
    rcases h.write x.i t with ⟨h1, _⟩ | ⟨h1, _, h3, h4, _, h6⟩
    · rw [h1]; exact ⟨_, _, same _⟩
    · rw [h1]; exact ⟨_, _, act _ (by show x.i.toNat < _; omega) h6⟩
  unfold withD
  split
  · exact wr _
  · split
    · rcases h.erase x.i with ⟨h1, _⟩ | ⟨h1, _, h3, h4, h6⟩
      · rw [h1]; exact ⟨_, _, same _⟩
      · rw [h1]; exact ⟨_, _, act _ (by show x.i.toNat < _; omega) h6⟩
    · split
      · rw [flush_eqD h hu]
        exact ⟨0, false, fun _ _ => rfl, fun hf => (by cases hf), flD_wf h, hu, rfl, Nat.zero_le _, rfl⟩
      · rw [if_neg (by omega), if_neg (by omega), if_neg (by omega)]
        exact wr _
/-- How many blocks among the first turned. -/
def chg (i : Nat) (fl : Bool) (k : Nat) : Nat := if fl = true ∧ i < k then 1 else 0
theorem chg_zero (i : Nat) (fl : Bool) : chg i fl 0 = 0 := by unfold chg; rw [if_neg (by omega)]
theorem chg_le (i : Nat) (fl : Bool) (k : Nat) : chg i fl k ≤ 1 := by unfold chg; split <;> omega
theorem chg_off {i : Nat} {fl : Bool} {k : Nat} (h : ¬ (fl = true ∧ k = i)) : chg i fl (k + 1) = chg i fl k := by
  unfold chg
  by_cases hf : fl = true
  · by_cases hk : i < k
    · rw [if_pos ⟨hf, by omega⟩, if_pos ⟨hf, hk⟩]
    · rw [if_neg (by intro h2; exact h ⟨hf, by omega⟩), if_neg (by intro h2; exact hk h2.2)]
  · rw [if_neg (by intro h2; exact hf h2.1), if_neg (by intro h2; exact hf h2.1)]
theorem chg_on (i : Nat) : chg i true (i + 1) = 1 ∧ chg i true i = 0 := by
  unfold chg
  exact ⟨by rw [if_pos ⟨rfl, by omega⟩], by rw [if_neg (by omega)]⟩
end Go.Proofs.Ythlaackalmgfnaa
