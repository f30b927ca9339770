/- What a thing asked makes of a device, plainly; With on a device of the call's own. -/
import Derived.Test.YthlaackalmgfnaaEe
import Derived.Test.YthlaackalmgfnaaEb
namespace Go.Proofs.Ythlaackalmgfnaa
open Go.RowKit

/-- What a thing asked tells, and makes (no tampering). -/
def withD (d : Dv) (x : DoX) : Int × Dv :=
  if x.q % 13 = 4 then writeD d x.i x.s
  else if x.q % 13 = 5 ∨ x.q % 13 = 6 then eraseD d x.i
  else if x.q % 13 = 7 then flushD d
  else if x.q % 13 = 8 then crashE d x.k
  else if x.q % 13 = 9 ∨ x.q % 13 = 10 then startD d
  else if x.q % 13 = 11 then failF d x.n x.k
  else writeD d x.i (blockT x.s)
theorem failsD_acts (d : Dv) : (failsD d).2.acts = d.acts ∧ (failsD d).2.starts = d.starts := by
  unfold failsD
  split <;> exact ⟨rfl, rfl⟩
theorem endD_few (d : Dv) : (endD d).2.acts.length ≤ d.acts.length ∧ (endD d).2.starts = d.starts := by
  unfold endD
  obtain ⟨h1, h2⟩ := failsD_acts d
  split
  · exact ⟨Nat.zero_le _, h2⟩
  · exact ⟨by rw [h1]; exact Nat.le_refl _, h2⟩
theorem doD_few (d : Dv) (x : Ac) : (doD d x).2.acts.length ≤ d.acts.length + 1 ∧ (doD d x).2.starts = d.starts := by
  obtain ⟨h1, h2⟩ := endD_few (actD d x)
  unfold doD
  exact ⟨Nat.le_trans h1 (by simp [actD]), h2⟩
theorem writeD_few (d : Dv) (i : Int) (s : List UInt8) : (writeD d i s).2.acts.length ≤ d.acts.length + 1 ∧ (writeD d i s).2.starts ≤ d.starts + 1 := by
  obtain ⟨h1, h2⟩ := doD_few d (.wr i.toNat (ofT s))
  unfold writeD
  split
  · exact ⟨Nat.le_succ _, Nat.le_succ _⟩
  · split
    · exact ⟨Nat.le_succ _, Nat.le_succ _⟩
    · split
      · exact ⟨Nat.le_succ _, Nat.le_succ _⟩
      · split
        · exact ⟨Nat.le_succ _, Nat.le_succ _⟩
        · exact ⟨h1, by omega⟩
theorem eraseD_few (d : Dv) (i : Int) : (eraseD d i).2.acts.length ≤ d.acts.length + 1 ∧ (eraseD d i).2.starts ≤ d.starts + 1 := by
  obtain ⟨h1, h2⟩ := doD_few d (.er i.toNat)
  unfold eraseD
  split
  · exact ⟨Nat.le_succ _, Nat.le_succ _⟩
  · split
    · exact ⟨Nat.le_succ _, Nat.le_succ _⟩
    · split
      · exact ⟨Nat.le_succ _, Nat.le_succ _⟩
      · split
        · exact ⟨Nat.le_succ _, Nat.le_succ _⟩
        · exact ⟨h1, by omega⟩
theorem flushD_few (d : Dv) : (flushD d).2.acts.length ≤ d.acts.length + 1 ∧ (flushD d).2.starts ≤ d.starts + 1 := by
  obtain ⟨h1, h2⟩ := failsD_acts d
  unfold flushD
  split
  · exact ⟨Nat.le_succ _, Nat.le_succ _⟩
  · split
    · exact ⟨Nat.zero_le _, by show (failsD d).2.starts ≤ _; omega⟩
    · exact ⟨Nat.zero_le _, by show (failsD d).2.starts ≤ _; omega⟩
theorem withD_few (d : Dv) (x : DoX) : (withD d x).2.acts.length ≤ d.acts.length + 1 ∧ (withD d x).2.starts ≤ d.starts + 1 := by
  unfold withD
  split
  · exact writeD_few _ _ _
  · split
    · exact eraseD_few _ _
    · split
      · exact flushD_few _
      · split
        · unfold crashE
          split
          · exact ⟨Nat.le_succ _, Nat.le_succ _⟩
          · exact ⟨Nat.zero_le _, Nat.le_succ _⟩
        · split
          · unfold startD
            split
            · exact ⟨Nat.le_succ _, Nat.le_succ _⟩
            · exact ⟨Nat.le_succ _, Nat.le_refl _⟩
          · split
            · unfold failF
              split
              · exact ⟨Nat.le_succ _, Nat.le_succ _⟩
              · split
                · exact ⟨Nat.le_succ _, Nat.le_succ _⟩
                · exact ⟨Nat.le_succ _, Nat.le_succ _⟩
            · exact writeD_few _ _ _
/-- With on a device of the call's own. -/
theorem one_with {w : World} {p : Nat} {d : Dv} {O : Nat → Prop} {wr : World} (h : One w p d O wr) (x : DoX) (hx : x.ok wr) (hxk : x.k ≠ [] → ∀ i, x.kv.ownBlock = some i → i < wr.heap.size → ¬ O i) (hl : x.k.length ≤ 1000000) (hn : x.q % 13 < 12) (ha : d.acts.length < 1000000) (hs : d.starts < 1000000) :
    Calls Try.prog 12 #[.pointer (some ⟨p, 0, none⟩), .agg x.v] wr (Tells fun r w' => r = (withD d x).1 ∧ ∃ O', One w p (withD d x).2 O' w' ∧ Turn O wr w') := by
  have tell : ∀ {w1 : World} {e : Ending} {w' : World} {R : Int × Dv}, Below wr.heap.size wr w1 → withD d x = R → e = .returned (.int .i64 R.1) → (∃ O', One w p R.2 O' w') → Turn O w1 w' → TellsK wr.heap.size w1 (fun r w' => r = (withD d x).1 ∧ ∃ O', One w p (withD d x).2 O' w' ∧ Turn O wr w') e w' := fun {w1 e w' R} hb hR he ho ht => by
    obtain ⟨O', ho⟩ := ho
    refine ⟨R.1, he, ⟨by rw [hR], O', by rw [hR]; exact ho, (Turn.of_below hb).trans ht fun _ _ h => h⟩, fun k hk1 hk2 => ht.block k hk2 (fun hO => ?_)⟩
    have := h.hi k hO
    omega
  have n0 : ∀ {w1 : World}, Below wr.heap.size wr w1 → One w p d O w1 := fun hb => h.next hb
  have hm : x.q % 13 < 13 := Nat.mod_lt _ (by omega)
  by_cases h0 : x.q % 13 < 4
  · have e : withD d x = writeD d x.i (blockT x.s) := by
      unfold withD
      rw [if_neg (by omega), if_neg (by omega), if_neg (by omega), if_neg (by omega), if_neg (by omega), if_neg (by omega)]
    exact with_0 h0 hx.q fun w1 hb => (write_dev (n0 hb).dev x.i _ ha).mono fun _ _ hh => tell hb e hh.1 ⟨_, (n0 hb).turn hh.2.1 hh.2.2⟩ hh.2.2
  · have hc : x.q % 13 = 4 ∨ x.q % 13 = 5 ∨ x.q % 13 = 6 ∨ x.q % 13 = 7 ∨ x.q % 13 = 8 ∨ x.q % 13 = 9 ∨ x.q % 13 = 10 ∨ x.q % 13 = 11 := by omega
    rcases hc with hc | hc | hc | hc | hc | hc | hc | hc
    · have e : withD d x = writeD d x.i x.s := by unfold withD; rw [if_pos hc]
      exact with_4 hc hx.q fun w1 hb => (write_dev (n0 hb).dev x.i _ ha).mono fun _ _ hh => tell hb e hh.1 ⟨_, (n0 hb).turn hh.2.1 hh.2.2⟩ hh.2.2
    · have e : withD d x = eraseD d x.i := by unfold withD; rw [if_neg (by omega), if_pos (by omega)]
      exact with_5 hc hx.q fun w1 hb => (erase_dev (n0 hb).dev x.i ha).mono fun _ _ hh => tell hb e hh.1 ⟨_, (n0 hb).turn hh.2.1 hh.2.2⟩ hh.2.2
    · have e : withD d x = eraseD d x.i := by unfold withD; rw [if_neg (by omega), if_pos (by omega)]
      exact with_6 hc hx.q fun w1 hb => (erase_dev (n0 hb).dev x.i ha).mono fun _ _ hh => tell hb e hh.1 ⟨_, (n0 hb).turn hh.2.1 hh.2.2⟩ hh.2.2
    · have e : withD d x = flushD d := by unfold withD; rw [if_neg (by omega), if_neg (by omega), if_pos hc]
      exact with_7 hc hx.q fun w1 hb => (flush_dev (n0 hb).dev).mono fun _ _ hh => tell hb e hh.1 ⟨_, (n0 hb).turn0 hh.2.1 hh.2.2⟩ hh.2.2
    · have e : withD d x = crashE d x.k := by unfold withD; rw [if_neg (by omega), if_neg (by omega), if_neg (by omega), if_pos hc]
      exact with_8 hc hx.q fun w1 hb => (crash_dev (n0 hb).dev (hx.below hb).k fun hk i hi _ hO => hxk hk i hi (h.hi i hO) hO).mono fun _ _ hh => tell hb e hh.1 ⟨_, (n0 hb).turn0 hh.2.1 hh.2.2⟩ hh.2.2
    · have e : withD d x = startD d := by unfold withD; rw [if_neg (by omega), if_neg (by omega), if_neg (by omega), if_neg (by omega), if_pos (by omega)]
      exact with_9 hc hx.q fun w1 hb => (start_dev (n0 hb).dev hs).mono fun _ _ hh => tell hb e hh.1 ⟨_, (n0 hb).turn0 hh.2.1 hh.2.2⟩ hh.2.2
    · have e : withD d x = startD d := by unfold withD; rw [if_neg (by omega), if_neg (by omega), if_neg (by omega), if_neg (by omega), if_pos (by omega)]
      exact with_10 hc hx.q fun w1 hb => (start_dev (n0 hb).dev hs).mono fun _ _ hh => tell hb e hh.1 ⟨_, (n0 hb).turn0 hh.2.1 hh.2.2⟩ hh.2.2
    · have e : withD d x = failF d x.n x.k := by unfold withD; rw [if_neg (by omega), if_neg (by omega), if_neg (by omega), if_neg (by omega), if_neg (by omega), if_pos hc]
      exact with_11 hc hx.q fun w1 hb => (fail_dev (n0 hb).dev x.n hx.n (hx.below hb).k hl).mono fun _ _ hh => tell hb e hh.1 ⟨_, (n0 hb).turn hh.2.1 hh.2.2⟩ hh.2.2
end Go.Proofs.Ythlaackalmgfnaa
