/- Runs of blocks, plainly: what the laws of layer 7 say of them. -/
import Derived.Test.YtbnfhhjgalphgaaYn
namespace Go.Proofs.Ytbnfhhjgalphgaa
open Go.RowKit

theorem takeT_some {l : List Rn} {n : Int} {x : Rn} {m : List Rn} (h : takeT l n = some (x, m)) : chkB l = true ∧ 1 ≤ n ∧ TakeOk l n x m := by
  unfold takeT at h
  split at h
  · rename_i hc
    exact ⟨hc.1, hc.2, take_ok hc.1 hc.2 h⟩
  · cases h
theorem takeT_none {l : List Rn} {n : Int} (hl : chkB l = true) (hn : 1 ≤ n) : takeT l n = none ↔ ∀ r ∈ l, r.c < n := by
  unfold takeT
  rw [if_pos ⟨hl, hn⟩, takeL_none]
/-- What is taken, and given back. -/
theorem back_runs {l : List Rn} {n : Int} {x : Rn} {m : List Rn} (h : takeT l n = some (x, m)) : giveT m x = some l := by
  obtain ⟨h1, _, h3⟩ := takeT_some h
  exact give_is h3.chk h3.one h3.no h1 fun k => by rw [h3.has, Bool.or_comm]
theorem tot_take {l : List Rn} {n : Int} {x : Rn} {m : List Rn} (h : takeT l n = some (x, m)) : totL m = totL l - n := by
  obtain ⟨h1, _, h3⟩ := takeT_some h
  unfold totL
  rw [if_pos h1, if_pos h3.chk, h3.sum]
theorem tot_give {l : List Rn} {r : Rn} {m : List Rn} (h : giveT l r = some m) : totL m = totL l + r.c := by
  obtain ⟨h1, _, _, h3⟩ := give_ok h
  unfold totL
  rw [if_pos h1, if_pos h3.chk, h3.sum]
/-- Two runs, taken one behind the other, have no block in common. -/
theorem twice_apart {l : List Rn} {n n2 : Int} {a b : Rn} {m m2 : List Rn} (h : takeT l n = some (a, m)) (h2 : takeT m n2 = some (b, m2)) : meetB a b = false := by
  obtain ⟨_, _, h3⟩ := takeT_some h
  obtain ⟨_, _, h4⟩ := takeT_some h2
  cases hm : meetB a b with
  | false => rfl
  | true =>
    have hm := meetB_iff.1 hm
    have ea := one_e h3.one
    have eb := one_e h4.one
    have bad : ∀ k, inB a k = true → inB b k = true → False := fun k k1 k2 => by
      have := h3.no k k1
      rw [h4.has, k2] at this
      cases this
    rcases (by omega : a.s < b.s ∨ b.s ≤ a.s) with h | h
    · exact (bad b.s (inB_iff.2 ⟨by omega, by omega⟩) (inB_iff.2 ⟨by omega, by omega⟩)).elim
    · exact (bad a.s (inB_iff.2 ⟨by omega, by omega⟩) (inB_iff.2 ⟨by omega, by omega⟩)).elim
/-- Given back, in either order, they leave the runs as they were. -/
theorem twice_back {l : List Rn} {n n2 : Int} {a b : Rn} {m m2 : List Rn} (h : takeT l n = some (a, m)) (h2 : takeT m n2 = some (b, m2)) :
    (∃ c, giveT m2 a = some c ∧ giveT c b = some l) ∧ ∃ e, giveT m2 b = some e ∧ giveT e a = some l := by
  obtain ⟨h1, _, h3⟩ := takeT_some h
  obtain ⟨_, _, h4⟩ := takeT_some h2
  have n1 : ∀ k, inB a k = true → hasB m2 k = false := fun k hk => by
    have := h3.no k hk
    rw [h4.has] at this
    simp at this; exact this.2
  have n2' : ∀ k, inB b k = true → inB a k = false := fun k hk => by
    cases hh : inB a k with
    | false => rfl
    | true =>
      have := h3.no k hh
      rw [h4.has, hk] at this
      cases this
  constructor
  · have hg : giveT m2 a = some (giveR m2 a) := by
      unfold giveT
      rw [if_pos ⟨h4.chk, h3.one⟩, if_neg]
      intro hm
      obtain ⟨k, k1, k2⟩ := (meet_iff h4.chk h3.one).1 hm
      rw [n1 k k1] at k2; cases k2
    obtain ⟨_, _, _, hk⟩ := give_ok hg
    refine ⟨_, hg, give_is hk.chk h4.one (fun k k1 => by rw [hk.has, h4.no k k1, n2' k k1]; rfl) h1 fun k => ?_⟩
    rw [hk.has, h3.has, h4.has]
    cases inB a k <;> cases inB b k <;> cases hasB m2 k <;> rfl
  · exact ⟨m, back_runs h2, back_runs h⟩
/-- A block that becomes blank. -/
theorem blank_set (st : List Int) (k : Nat) (hk : k < st.length) (j : Nat) : blankB (st.set k 0) j = (decide (j = k) || blankB st j) := by
  unfold blankB
  by_cases h : j = k
  · subst h; simp [List.getElem?_set_self hk]
  · rw [List.getElem?_set_ne (fun e => h e.symm)]; simp [h]
theorem turn_runs (st : List Int) (hst : st.length ≤ 1099511627776) (k : Nat) (hk : k < st.length) (hb : blankB st k = false) : giveT (freeL st) ⟨k, 1⟩ = some (freeL (st.set k 0)) := by
  have h1 := freeL_ok st hst
  have h2 := freeL_ok (st.set k 0) (by rw [List.length_set]; exact hst)
  have e1 : (⟨(k : Int), 1⟩ : Rn).e = k + 1 := rfl
  refine give_is h1.chk (oneB_iff.2 (by simp only; omega)) (fun j hj => ?_) h2.chk fun j => ?_
  · have hj := inB_iff.1 hj
    rw [e1] at hj
    simp only at hj
    cases hh : hasB (freeL st) j with
    | false => rfl
    | true =>
      have := ((h1.has j).1 hh).2.2
      rw [show j.toNat = k by omega, hb] at this; cases this
  · rw [Bool.eq_iff_iff, h2.has, Bool.or_eq_true, h1.has, inB_iff, e1, List.length_set, blank_set st k hk]
    simp only [Bool.or_eq_true, decide_eq_true_eq]
    constructor
    · rintro ⟨a, b, c | c⟩
      · exact .inr (by omega)
      · exact .inl ⟨a, b, c⟩
    · rintro (⟨a, b, c⟩ | h)
      · exact ⟨a, b, .inr c⟩
      · exact ⟨by omega, by omega, .inl (by omega)⟩
/-- One that is blank is refused. -/
theorem turn_no (st : List Int) (hst : st.length ≤ 1099511627776) (k : Nat) (hk : k < st.length) (hb : blankB st k = true) : giveT (freeL st) ⟨k, 1⟩ = none := by
  have h1 := freeL_ok st hst
  have h3 : oneB ⟨(k : Int), 1⟩ = true := oneB_iff.2 (by simp only; omega)
  unfold giveT
  rw [if_pos ⟨h1.chk, h3⟩, if_pos]
  exact (meet_iff h1.chk h3).2 ⟨k, inB_iff.2 ⟨Int.le_refl _, by show (k : Int) < k + 1; omega⟩, (h1.has k).2 ⟨by omega, by omega, by rw [Int.toNat_natCast]; exact hb⟩⟩
/-- The first ones, taken one by one. -/
theorem one_by_one {st : List Int} {l : List Rn} {k : Nat} (hc : chkB l = true) (hh : ∀ j : Int, hasB l j = true ↔ (k : Int) ≤ j ∧ j < st.length ∧ blankB st j.toNat = true) (hk : k < st.length) (hb : blankB st k = true) :
    ∃ m, takeT l 1 = some (⟨k, 1⟩, m) ∧ chkB m = true ∧ ∀ j : Int, hasB m j = true ↔ ((k + 1 : Nat) : Int) ≤ j ∧ j < st.length ∧ blankB st j.toNat = true := by
  have hk1 : hasB l k = true := (hh k).2 ⟨Int.le_refl _, by omega, by rw [Int.toNat_natCast]; exact hb⟩
  cases l with
  | nil => cases hk1
  | cons a l =>
    have h1 := chk_least hc hk1
    have ea := one_e (chk_cons.1 hc).1
    have h2 : (k : Int) ≤ a.s := ((hh a.s).1 (by rw [hasB_cons, inB_iff.2 ⟨Int.le_refl _, ea⟩]; rfl)).1
    have hs : a.s = k := by omega
    have ho := oneB_iff.1 (chk_cons.1 hc).1
    have ht : takeT (a :: l) 1 = some (⟨k, 1⟩, if 1 < a.c then ⟨a.s + 1, a.c - 1⟩ :: l else l) := by
      unfold takeT takeL
      rw [if_pos ⟨hc, by omega⟩, if_neg (by omega), hs]
    have hok := (takeT_some ht).2.2
    refine ⟨_, ht, hok.chk, fun j => ?_⟩
    generalize (if 1 < a.c then ⟨a.s + 1, a.c - 1⟩ :: l else l) = m at *
    have hj := hh j
    rw [hok.has] at hj
    have e1 : (⟨(k : Int), 1⟩ : Rn).e = k + 1 := rfl
    have i1 : inB ⟨(k : Int), 1⟩ j = true ↔ j = k := by rw [inB_iff, e1]; simp only; omega
    by_cases hjk : j = k
    · have := hok.no j (i1.2 hjk)
      rw [this]
      simp; omega
    · have : inB ⟨(k : Int), 1⟩ j = false := by
        cases h : inB ⟨(k : Int), 1⟩ j with
        | false => rfl
        | true => exact absurd (i1.1 h) hjk
      rw [this, Bool.false_or] at hj
      rw [hj]
      constructor
      · rintro ⟨a, b, c⟩; exact ⟨by omega, b, c⟩
      · rintro ⟨a, b, c⟩; exact ⟨by omega, b, c⟩
theorem none_left {st : List Int} {l : List Rn} (hc : chkB l = true) (hh : ∀ j : Int, hasB l j = true ↔ (st.length : Int) ≤ j ∧ j < st.length ∧ blankB st j.toNat = true) : l = [] := by
  refine runs_unique hc chk_nil fun k => ?_
  rw [hasB_nil]
  cases h : hasB l k with
  | false => rfl
  | true => have := (hh k).1 h; omega
end Go.Proofs.Ytbnfhhjgalphgaa
