/- Runs of blocks, plainly: which are blank, what is taken, what is given; nothing of the program. -/
import Derived.Test.YtbnfhhjgalphgaaYm
namespace Go.Proofs.Ytbnfhhjgalphgaa
open Go.RowKit

/-- Is the block at this place blank? -/
def blankB (st : List Int) (i : Nat) : Bool := decide (st[i]? = some 0)
def bump (l : List Rn) : List Rn := match l.getLast? with
  | some r => l.dropLast ++ [⟨r.s, r.c + 1⟩]
  | none => []
theorem bump_snoc (l : List Rn) (r : Rn) : bump (l ++ [r]) = l ++ [⟨r.s, r.c + 1⟩] := by simp [bump]
/-- The runs of the blank ones of the first i. -/
def freeN (st : List Int) : Nat → List Rn
  | 0 => []
  | i + 1 => if blankB st i then (if 0 < i ∧ blankB st (i - 1) = true then bump (freeN st i) else freeN st i ++ [⟨i, 1⟩]) else freeN st i
def freeL (st : List Int) : List Rn := freeN st st.length
/-- What the runs of the first i are. -/
structure FreeOk (st : List Int) (i : Nat) (l : List Rn) : Prop where
  chk : chkB l = true
  has : ∀ k : Int, hasB l k = true ↔ 0 ≤ k ∧ k < i ∧ blankB st k.toNat = true
  ends : ∀ r ∈ l, r.e ≤ i
theorem FreeOk.last {st : List Int} {i : Nat} {l : List Rn} (h : FreeOk st i l) (h0 : 0 < i) (hb : blankB st (i - 1) = true) : ∃ p r, l = p ++ [r] ∧ r.e = (i : Int) := by
  have hh : hasB l ((i - 1 : Nat) : Int) = true := (h.has _).2 ⟨by omega, by omega, by rw [Int.toNat_natCast]; exact hb⟩
  obtain ⟨r, hr, h1, h2⟩ := hasB_iff.1 hh
  have he := h.ends r hr
  have hre : r.e = i := by omega
  obtain ⟨p, q, rfl⟩ := List.append_of_mem hr
  cases q with
  | nil => exact ⟨p, r, rfl, hre⟩
  | cons z q =>
    have hc := (chk_append.1 h.chk).2.1
    have hz := (chk_cons.1 hc).2.2 z (by simp)
    have h3 := h.ends z (by simp)
    have h4 := one_e ((chk_cons.1 ((chk_cons.1 hc).2.1)).1)
    omega
theorem freeN_ok (st : List Int) (hst : st.length ≤ 1099511627776) : ∀ i, i ≤ st.length → FreeOk st i (freeN st i)
  | 0, _ => ⟨rfl, fun k => ⟨fun h => (by cases h), fun h => (by omega)⟩, fun r hr => by cases hr⟩
  | i + 1, hi => by
    have ih := freeN_ok st hst i (by omega)
    unfold freeN
    cases hb : blankB st i with
    | false =>
      simp only [Bool.false_eq_true, if_false]
      refine ⟨ih.chk, fun k => ?_, fun r hr => by have := ih.ends r hr; omega⟩
      rw [ih.has]
      constructor
      · rintro ⟨a, b, c⟩; exact ⟨a, by omega, c⟩
      · rintro ⟨a, b, c⟩
        refine ⟨a, ?_, c⟩
        have : k ≠ i := fun e => by subst e; rw [Int.toNat_natCast, hb] at c; cases c
        omega
    | true =>
      simp only [if_true]
      by_cases hp : 0 < i ∧ blankB st (i - 1) = true
      · rw [if_pos hp]
        obtain ⟨p, r, hpr, hre⟩ := ih.last hp.1 hp.2
        rw [hpr] at ih ⊢
        rw [bump_snoc]
        obtain ⟨c1, c2, c3⟩ := chk_append.1 ih.chk
        have c4 := oneB_iff.1 (chk_cons.1 c2).1
        have e2 : (⟨r.s, r.c + 1⟩ : Rn).e = i + 1 := by unfold Rn.e at *; simp only; omega
        refine ⟨chk_append.2 ⟨c1, chk_cons.2 ⟨oneB_iff.2 ?_, rfl, fun r hr => by cases hr⟩, fun a ha b hb => ?_⟩, fun k => ?_, fun q hq => ?_⟩
        · unfold Rn.e at hre; simp only; omega
        · obtain rfl := List.mem_singleton.1 hb
          exact c3 a ha r (by simp)
        · rw [hasB_append, hasB_cons, hasB_nil, Bool.or_false]
          have hk := ih.has k
          rw [hasB_append, hasB_cons, hasB_nil, Bool.or_false] at hk
          by_cases hki : k = i
          · subst hki
            have i1 : inB ⟨r.s, r.c + 1⟩ (i : Int) = true := inB_iff.2 ⟨by simp only; unfold Rn.e at hre; omega, by omega⟩
            rw [i1, Bool.or_true]
            simp [hb]
            omega
          · have i1 : inB ⟨r.s, r.c + 1⟩ k = inB r k := by
              rw [Bool.eq_iff_iff, inB_iff, inB_iff, e2, hre]; simp only; omega
            rw [i1, hk]
            constructor
            · rintro ⟨a, b, c⟩; exact ⟨a, by omega, c⟩
            · rintro ⟨a, b, c⟩; exact ⟨a, by omega, c⟩
        · rcases List.mem_append.1 hq with hq | hq
          · have := ih.ends q (List.mem_append_left _ hq); omega
          · obtain rfl := List.mem_singleton.1 hq
            omega
      · rw [if_neg hp]
        have noend : ∀ r ∈ freeN st i, r.e < i := fun r hr => by
          have h1 := ih.ends r hr
          rcases Int.lt_or_eq_of_le h1 with h | h
          · exact h
          · exfalso
            have ho := oneB_iff.1 (chk_one ih.chk r hr)
            have hh : hasB (freeN st i) ((i : Int) - 1) = true := hasB_iff.2 ⟨r, hr, by unfold Rn.e at h; omega, by omega⟩
            obtain ⟨a, b, c⟩ := (ih.has _).1 hh
            refine hp ⟨by omega, ?_⟩
            rw [show ((i : Int) - 1).toNat = i - 1 by omega] at c
            exact c
        have e2 : (⟨(i : Int), 1⟩ : Rn).e = i + 1 := rfl
        refine ⟨chk_append.2 ⟨ih.chk, chk_cons.2 ⟨oneB_iff.2 (by simp only; omega), rfl, fun r hr => by cases hr⟩, fun a ha b hb => ?_⟩, fun k => ?_, fun q hq => ?_⟩
        · obtain rfl := List.mem_singleton.1 hb
          exact noend a ha
        · rw [hasB_append, hasB_cons, hasB_nil, Bool.or_false]
          by_cases hki : k = i
          · subst hki
            have i1 : inB ⟨(i : Int), 1⟩ (i : Int) = true := inB_iff.2 ⟨by simp only; omega, by omega⟩
            rw [i1, Bool.or_true]
            simp [hb]
            omega
          · have i1 : inB ⟨(i : Int), 1⟩ k = false := by
              cases h : inB ⟨(i : Int), 1⟩ k with
              | false => rfl
              | true => have := inB_iff.1 h; rw [e2] at this; simp only at this; omega
            rw [i1, Bool.or_false, ih.has]
            constructor
            · rintro ⟨a, b, c⟩; exact ⟨a, by omega, c⟩
            · rintro ⟨a, b, c⟩; exact ⟨a, by omega, c⟩
        · rcases List.mem_append.1 hq with hq | hq
          · have := ih.ends q hq; omega
          · obtain rfl := List.mem_singleton.1 hq
            omega
theorem freeL_ok (st : List Int) (hst : st.length ≤ 1099511627776) : FreeOk st st.length (freeL st) := freeN_ok st hst _ (Nat.le_refl _)
/-- What is taken, and what is left. -/
def takeL : List Rn → Int → Option (Rn × List Rn)
  | [], _ => none
  | r :: l, n => if r.c < n then (takeL l n).map (fun p => (p.1, r :: p.2)) else some (⟨r.s, n⟩, if n < r.c then ⟨r.s + n, r.c - n⟩ :: l else l)
def takeT (l : List Rn) (n : Int) : Option (Rn × List Rn) := if chkB l = true ∧ 1 ≤ n then takeL l n else none
theorem takeL_none {n : Int} : ∀ {l : List Rn}, takeL l n = none ↔ ∀ r ∈ l, r.c < n
  | [] => by simp [takeL]
  | a :: l => by
    unfold takeL
    by_cases h : a.c < n
    · rw [if_pos h, Option.map_eq_none_iff, takeL_none]
      simp [h]
    · rw [if_neg h]
      simp [h]
theorem takeL_some {n : Int} {x : Rn} {m : List Rn} : ∀ {l : List Rn}, takeL l n = some (x, m) → ∃ p r q, l = p ++ r :: q ∧ (∀ a ∈ p, a.c < n) ∧ n ≤ r.c ∧ x = ⟨r.s, n⟩ ∧ m = p ++ (if n < r.c then ⟨r.s + n, r.c - n⟩ :: q else q)
  | [], h => by cases h
  | a :: l, h => by
    unfold takeL at h
    by_cases hc : a.c < n
    · rw [if_pos hc, Option.map_eq_some_iff] at h
      obtain ⟨⟨x', m'⟩, h1, h2⟩ := h
      obtain ⟨rfl, rfl⟩ := Prod.mk.inj h2
      obtain ⟨p, r, q, e1, e2, e3, e4, e5⟩ := takeL_some h1
      refine ⟨a :: p, r, q, by rw [e1]; rfl, fun b hb => ?_, e3, e4, by rw [e5]; rfl⟩
      rcases List.mem_cons.1 hb with rfl | hb
      · exact hc
      · exact e2 b hb
    · rw [if_neg hc] at h
      obtain ⟨rfl, rfl⟩ := Prod.mk.inj (Option.some.inj h)
      exact ⟨[], a, l, rfl, fun b hb => (by cases hb), by omega, rfl, rfl⟩
/-- What is taken was there, is no longer there, and is all that is no longer there. -/
structure TakeOk (l : List Rn) (n : Int) (x : Rn) (m : List Rn) : Prop where
  chk : chkB m = true
  one : oneB x = true
  cnt : x.c = n
  has : ∀ k, hasB l k = (inB x k || hasB m k)
  no : ∀ k, inB x k = true → hasB m k = false
  sum : sumC m = sumC l - n
  first : ∃ p r q, l = p ++ r :: q ∧ (∀ a ∈ p, a.c < n) ∧ n ≤ r.c ∧ x.s = r.s
theorem take_ok {l : List Rn} {n : Int} {x : Rn} {m : List Rn} (hl : chkB l = true) (hn : 1 ≤ n) (h : takeL l n = some (x, m)) : TakeOk l n x m := by
  obtain ⟨p, r, q, rfl, h2, h3, rfl, rfl⟩ := takeL_some h
  obtain ⟨c1, c2, c3⟩ := chk_append.1 hl
  obtain ⟨c4, c5, c6⟩ := chk_cons.1 c2
  have c7 := oneB_iff.1 c4
  have ex : (⟨r.s, n⟩ : Rn).e = r.s + n := rfl
  have hq : ∀ k, inB ⟨r.s, n⟩ k = true → hasB p k = false ∧ hasB q k = false := fun k hk => by
    have hk := inB_iff.1 hk
    rw [ex] at hk
    simp only at hk
    constructor
    · cases hh : hasB p k with
      | false => rfl
      | true =>
        obtain ⟨a, ha, a1, a2⟩ := hasB_iff.1 hh
        have := c3 a ha r (by simp)
        omega
    · cases hh : hasB q k with
      | false => rfl
      | true =>
        have := chk_behind c2 hh
        unfold Rn.e at this
        omega
  have h1 : oneB ⟨r.s, n⟩ = true := oneB_iff.2 (by simp only; omega)
  by_cases hc : n < r.c
  · simp only [if_pos hc]
    have er : (⟨r.s + n, r.c - n⟩ : Rn).e = r.e := by unfold Rn.e; simp only; omega
    refine ⟨chk_append.2 ⟨c1, chk_cons.2 ⟨oneB_iff.2 (by simp only; omega), c5, fun b hb => ?_⟩, fun a ha b hb => ?_⟩, h1, rfl, fun k => ?_, fun k hk => ?_, ?_, ⟨p, r, q, rfl, h2, h3, rfl⟩⟩
    · rw [er]; exact c6 b hb
    · rcases List.mem_cons.1 hb with rfl | hb
      · have := c3 a ha r (by simp); simp only; omega
      · exact c3 a ha b (List.mem_cons_of_mem _ hb)
    · rw [hasB_append, hasB_append, hasB_cons, hasB_cons]
      have : inB r k = (inB ⟨r.s, n⟩ k || inB ⟨r.s + n, r.c - n⟩ k) := by
        rw [Bool.eq_iff_iff, Bool.or_eq_true, inB_iff, inB_iff, inB_iff, er, ex]
        simp only; unfold Rn.e; omega
      rw [this]
      cases hasB p k <;> cases inB ⟨r.s, n⟩ k <;> rfl
    · obtain ⟨a1, a2⟩ := hq k hk
      rw [hasB_append, hasB_cons, a1, a2]
      have hk := inB_iff.1 hk
      rw [ex] at hk
      simp only [Bool.false_or, Bool.or_false]
      cases hh : inB ⟨r.s + n, r.c - n⟩ k with
      | false => rfl
      | true => have := inB_iff.1 hh; simp only at this; omega
    · rw [sumC_append, sumC_append, sumC_cons, sumC_cons]; simp only; omega
  · simp only [if_neg hc]
    have hnc : n = r.c := by omega
    refine ⟨chk_append.2 ⟨c1, c5, fun a ha b hb => c3 a ha b (List.mem_cons_of_mem _ hb)⟩, h1, rfl, fun k => ?_, fun k hk => ?_, ?_, ⟨p, r, q, rfl, h2, h3, rfl⟩⟩
    · rw [hasB_append, hasB_append, hasB_cons]
      have : inB r k = inB ⟨r.s, n⟩ k := by
        rw [Bool.eq_iff_iff, inB_iff, inB_iff, ex]
        simp only; unfold Rn.e; omega
      rw [this]
      cases hasB p k <;> cases inB ⟨r.s, n⟩ k <;> rfl
    · obtain ⟨a1, a2⟩ := hq k hk
      rw [hasB_append, a1, a2]; rfl
    · rw [sumC_append, sumC_append, sumC_cons]; omega
/-- Have both a block? -/
def meetB (a r : Rn) : Bool := decide (a.s < r.e) && decide (r.s < a.e)
theorem meetB_iff {a r : Rn} : meetB a r = true ↔ a.s < r.e ∧ r.s < a.e := by simp [meetB]
def giveR : List Rn → Rn → List Rn
  | [], r => [r]
  | a :: l, r => if a.e < r.s then a :: giveR l r else if r.e < a.s then r :: a :: l else if a.e = r.s then giveR l ⟨a.s, a.c + r.c⟩ else ⟨r.s, r.c + a.c⟩ :: l
/-- Runs, given one more. -/
def giveT (l : List Rn) (r : Rn) : Option (List Rn) := if chkB l = true ∧ oneB r = true then (if l.any (fun a => meetB a r) then none else some (giveR l r)) else none
theorem meet_iff {l : List Rn} {r : Rn} (hl : chkB l = true) (hr : oneB r = true) : l.any (fun a => meetB a r) = true ↔ ∃ k, inB r k = true ∧ hasB l k = true := by
  constructor
  · intro h
    obtain ⟨a, ha, hm⟩ := List.any_eq_true.1 h
    obtain ⟨m1, m2⟩ := meetB_iff.1 hm
    have ea := one_e (chk_one hl a ha)
    have er := one_e hr
    rcases (by omega : a.s < r.s ∨ r.s ≤ a.s) with h | h
    · exact ⟨r.s, inB_iff.2 ⟨Int.le_refl _, er⟩, hasB_iff.2 ⟨a, ha, by omega, m2⟩⟩
    · exact ⟨a.s, inB_iff.2 ⟨h, m1⟩, hasB_iff.2 ⟨a, ha, Int.le_refl _, ea⟩⟩
  · rintro ⟨k, h1, h2⟩
    obtain ⟨a, ha, a1, a2⟩ := hasB_iff.1 h2
    have h1 := inB_iff.1 h1
    exact List.any_eq_true.2 ⟨a, ha, meetB_iff.2 ⟨by omega, by omega⟩⟩
/-- What is given is there, with all that was there, and nothing else. -/
structure GiveOk (l : List Rn) (r : Rn) (m : List Rn) : Prop where
  chk : chkB m = true
  has : ∀ k, hasB m k = (hasB l k || inB r k)
  sum : sumC m = sumC l + r.c
theorem giveR_starts : ∀ (l : List Rn) (r q : Rn), q ∈ giveR l r → q.s = r.s ∨ ∃ p ∈ l, q.s = p.s
  | [], r, q, h => by obtain rfl := List.mem_singleton.1 h; exact .inl rfl
  | a :: l, r, q, h => by
    unfold giveR at h
    split at h
    · rcases List.mem_cons.1 h with rfl | h
      · exact .inr ⟨q, by simp, rfl⟩
      · rcases giveR_starts l r q h with h | ⟨p, hp, h⟩
        · exact .inl h
        · exact .inr ⟨p, List.mem_cons_of_mem _ hp, h⟩
    · split at h
      · rcases List.mem_cons.1 h with rfl | h
        · exact .inl rfl
        · exact .inr ⟨q, h, rfl⟩
      · split at h
        · rcases giveR_starts l _ q h with h | ⟨p, hp, h⟩
          · exact .inr ⟨a, by simp, h⟩
          · exact .inr ⟨p, List.mem_cons_of_mem _ hp, h⟩
        · rcases List.mem_cons.1 h with rfl | h
          · exact .inl rfl
          · exact .inr ⟨q, List.mem_cons_of_mem _ h, rfl⟩
theorem giveR_ok : ∀ (l : List Rn) (r : Rn), chkB l = true → oneB r = true → (∀ a ∈ l, meetB a r = false) → GiveOk l r (giveR l r)
  | [], r, _, hr, _ => ⟨chk_cons.2 ⟨hr, rfl, fun q hq => by cases hq⟩, fun k => by simp [giveR, hasB], by simp [giveR, sumC]⟩
  | a :: l, r, hl, hr, hm => by
    obtain ⟨c1, c2, c3⟩ := chk_cons.1 hl
    have ha := oneB_iff.1 c1
    have hr' := oneB_iff.1 hr
    have hma : ¬ (a.s < r.e ∧ r.s < a.e) := fun h => by have := hm a (by simp); rw [meetB_iff.2 h] at this; cases this
    have hml : ∀ b ∈ l, meetB b r = false := fun b hb => hm b (List.mem_cons_of_mem _ hb)
    have ea : a.e = a.s + a.c := rfl
    have er : r.e = r.s + r.c := rfl
    unfold giveR
    by_cases h1 : a.e < r.s
    · rw [if_pos h1]
      have ih := giveR_ok l r c2 hr hml
      refine ⟨chk_cons.2 ⟨c1, ih.chk, fun q hq => ?_⟩, fun k => ?_, ?_⟩
      · rcases giveR_starts l r q hq with h | ⟨p, hp, h⟩
        · rw [h]; exact h1
        · rw [h]; exact c3 p hp
      · rw [hasB_cons, ih.has, hasB_cons, Bool.or_assoc]
      · rw [sumC_cons, sumC_cons, ih.sum]; omega
    · rw [if_neg h1]
      by_cases h2 : r.e < a.s
      · rw [if_pos h2]
        refine ⟨chk_cons.2 ⟨hr, hl, fun q hq => ?_⟩, fun k => ?_, by rw [sumC_cons]; omega⟩
        · rcases List.mem_cons.1 hq with rfl | hq
          · exact h2
          · have := c3 q hq; omega
        · rw [hasB_cons, Bool.or_comm]
      · rw [if_neg h2]
        by_cases h3 : a.e = r.s
        · rw [if_pos h3]
          have e2 : (⟨a.s, a.c + r.c⟩ : Rn).e = r.e := by show a.s + (a.c + r.c) = _; omega
          have ih := giveR_ok l ⟨a.s, a.c + r.c⟩ c2 (oneB_iff.2 (by simp only; omega)) (fun b hb => by
            have hb1 := c3 b hb
            have hb2 := one_e (chk_one c2 b hb)
            have hb3 : ¬ (b.s < r.e ∧ r.s < b.e) := fun h => by have := hml b hb; rw [meetB_iff.2 h] at this; cases this
            cases hh : meetB b ⟨a.s, a.c + r.c⟩ with
            | false => rfl
            | true =>
              have := (meetB_iff.1 hh).1
              rw [e2] at this
              exact absurd ⟨this, by omega⟩ hb3)
          refine ⟨ih.chk, fun k => ?_, by rw [ih.sum, sumC_cons]; simp only; omega⟩
          rw [ih.has, hasB_cons]
          have : inB ⟨a.s, a.c + r.c⟩ k = (inB a k || inB r k) := by
            rw [Bool.eq_iff_iff, Bool.or_eq_true, inB_iff, inB_iff, inB_iff, e2]; simp only; omega
          rw [this]
          cases hasB l k <;> cases inB a k <;> cases inB r k <;> rfl
        · rw [if_neg h3]
          have h4 : a.s = r.e := by omega
          have e2 : (⟨r.s, r.c + a.c⟩ : Rn).e = a.e := by show r.s + (r.c + a.c) = _; omega
          refine ⟨chk_cons.2 ⟨oneB_iff.2 (by simp only; omega), c2, fun q hq => ?_⟩, fun k => ?_, by rw [sumC_cons, sumC_cons]; simp only; omega⟩
          · rw [e2]; exact c3 q hq
          · rw [hasB_cons, hasB_cons]
            have : inB ⟨r.s, r.c + a.c⟩ k = (inB a k || inB r k) := by
              rw [Bool.eq_iff_iff, Bool.or_eq_true, inB_iff, inB_iff, inB_iff, e2]; simp only; omega
            rw [this]
            cases hasB l k <;> cases inB a k <;> cases inB r k <;> rfl
theorem give_ok {l : List Rn} {r : Rn} {m : List Rn} (h : giveT l r = some m) : chkB l = true ∧ oneB r = true ∧ (∀ k, inB r k = true → hasB l k = false) ∧ GiveOk l r m := by
  unfold giveT at h
  split at h
  · rename_i hc
    split at h
    · cases h
    · rename_i hm
      obtain rfl := Option.some.inj h
      refine ⟨hc.1, hc.2, fun k hk => ?_, giveR_ok l r hc.1 hc.2 fun a ha => ?_⟩
      · cases hh : hasB l k with
        | false => rfl
        | true => exact absurd ((meet_iff hc.1 hc.2).2 ⟨k, hk, hh⟩) hm
      · cases hh : meetB a r with
        | false => rfl
        | true => exact absurd (List.any_eq_true.2 ⟨a, ha, hh⟩) hm
  · cases h
/-- Runs that may be, and whose blocks are those of others and of one more, are what it is given to them. -/
theorem give_is {l : List Rn} {r : Rn} {m : List Rn} (hl : chkB l = true) (hr : oneB r = true) (hno : ∀ k, inB r k = true → hasB l k = false) (hm : chkB m = true) (hh : ∀ k, hasB m k = (hasB l k || inB r k)) : giveT l r = some m := by
  have hma : ¬ l.any (fun a => meetB a r) = true := fun h => by
    obtain ⟨k, h1, h2⟩ := (meet_iff hl hr).1 h
    rw [hno k h1] at h2; cases h2
  have hg : giveT l r = some (giveR l r) := by
    unfold giveT
    rw [if_pos ⟨hl, hr⟩, if_neg hma]
  obtain ⟨_, _, _, hk⟩ := give_ok hg
  rw [hg, runs_unique hk.chk hm fun k => by rw [hk.has, hh]]
end Go.Proofs.Ytbnfhhjgalphgaa
