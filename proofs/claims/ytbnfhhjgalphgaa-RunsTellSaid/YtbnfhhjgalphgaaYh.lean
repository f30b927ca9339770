/- What the document's Give makes, list by list, plainly (layer 7). -/
import Derived.Test.YtbnfhhjgalphgaaYg
namespace Go.Proofs.Ytbnfhhjgalphgaa
open Go.RowKit

/-- What becomes of the run that is given, by one that stands there. -/
def stepX (r x a : Rn) : Rn :=
  let y : Rn := if a.e = r.s then ⟨a.s, a.c + x.c⟩ else x
  if a.s = r.e then ⟨y.s, y.c + a.c⟩ else y
def aheadL (l : List Rn) (r : Rn) : List Rn := l.filter fun a => decide (a.e < r.s)
def behindL (l : List Rn) (r : Rn) : List Rn := l.filter fun a => decide (r.e < a.s)
theorem stepX_behind {l : List Rn} {r x : Rn} (hr : r.s < r.e) (h : ∀ b ∈ l, r.e < b.s ∧ b.s < b.e) : l.foldl (stepX r) x = x ∧ aheadL l r = [] ∧ behindL l r = l := by
  induction l with
  | nil => exact ⟨rfl, rfl, rfl⟩
  | cons b l ih =>
    obtain ⟨h1, h2⟩ := h b (by simp)
    obtain ⟨i1, i2, i3⟩ := ih fun q hq => h q (List.mem_cons_of_mem _ hq)
    have hs : stepX r x b = x := by
      unfold stepX
      rw [if_neg (by omega : ¬ b.e = r.s)]
      simp only
      rw [if_neg (by omega)]
    refine ⟨by rw [List.foldl_cons, hs, i1], ?_, ?_⟩
    · unfold aheadL at *
      rw [List.filter_cons_of_neg (by simp; omega), i2]
    · unfold behindL at *
      rw [List.filter_cons_of_pos (by simp; omega), i3]
theorem giveR_touch : ∀ {l : List Rn} {x r : Rn}, x.e = r.e → x.s < r.e → r.s < r.e → chkB l = true → (∀ b ∈ l, r.e ≤ b.s) → giveR l x = l.foldl (stepX r) x :: behindL l r ∧ aheadL l r = []
  | [], x, r, _, _, _, _, _ => ⟨rfl, rfl⟩
  | b :: l, x, r, he, hx, hr, hl, h => by
    obtain ⟨c1, c2, c3⟩ := chk_cons.1 hl
    have hb := h b (by simp)
    have be := one_e c1
    have hrest : ∀ q ∈ l, r.e < q.s ∧ q.s < q.e := fun q hq => ⟨by have := c3 q hq; omega, one_e (chk_one c2 q hq)⟩
    obtain ⟨i1, i2, i3⟩ := stepX_behind (x := stepX r x b) hr hrest
    unfold giveR
    rw [if_neg (by omega : ¬ b.e < x.s)]
    by_cases h1 : r.e < b.s
    · have hall : ∀ q ∈ b :: l, r.e < q.s ∧ q.s < q.e := fun q hq => by
        rcases List.mem_cons.1 hq with rfl | hq
        · exact ⟨h1, be⟩
        · exact hrest q hq
      obtain ⟨j1, j2, j3⟩ := stepX_behind (x := x) hr hall
      rw [if_pos (by omega), j1, j3]
      exact ⟨rfl, j2⟩
    · have h2 : b.s = r.e := by omega
      have hs : stepX r x b = ⟨x.s, x.c + b.c⟩ := by
        unfold stepX
        rw [if_neg (by omega : ¬ b.e = r.s)]
        simp only
        rw [if_pos h2]
      rw [if_neg (by omega), if_neg (by omega), List.foldl_cons, i1, hs]
      refine ⟨?_, ?_⟩
      · congr 1
        unfold behindL at *
        rw [List.filter_cons_of_neg (by simp; omega), i3]
      · unfold aheadL at *
        rw [List.filter_cons_of_neg (by simp; omega), i2]
theorem giveR_is : ∀ {l : List Rn} {r : Rn}, chkB l = true → oneB r = true → (∀ a ∈ l, meetB a r = false) → giveR l r = aheadL l r ++ (l.foldl (stepX r) r :: behindL l r)
  | [], r, _, _, _ => rfl
  | a :: l, r, hl, hr, hm => by
    obtain ⟨c1, c2, c3⟩ := chk_cons.1 hl
    have ae := one_e c1
    have re := one_e hr
    have hma : ¬ (a.s < r.e ∧ r.s < a.e) := fun h => by have := hm a (by simp); rw [meetB_iff.2 h] at this; cases this
    have hml : ∀ b ∈ l, meetB b r = false := fun b hb => hm b (List.mem_cons_of_mem _ hb)
    have hbe : ∀ q ∈ l, q.s < q.e := fun q hq => one_e (chk_one c2 q hq)
    by_cases h1 : a.e < r.s
    · have hs : stepX r r a = r := by
        unfold stepX
        rw [if_neg (by omega : ¬ a.e = r.s)]
        simp only
        rw [if_neg (by omega)]
      rw [giveR, if_pos h1, giveR_is c2 hr hml, List.foldl_cons, hs]
      unfold aheadL behindL
      rw [List.filter_cons_of_pos (by simpa using h1), List.filter_cons_of_neg (by simp; omega)]
      rfl
    · by_cases h2 : r.e < a.s
      · have hall : ∀ q ∈ a :: l, r.e < q.s ∧ q.s < q.e := fun q hq => by
          rcases List.mem_cons.1 hq with rfl | hq
          · exact ⟨h2, ae⟩
          · exact ⟨by have := c3 q hq; omega, hbe q hq⟩
        obtain ⟨j1, j2, j3⟩ := stepX_behind (x := r) re hall
        rw [giveR, if_neg h1, if_pos h2, j1, j2, j3]
        rfl
      · by_cases h3 : a.e = r.s
        · have hs : stepX r r a = ⟨a.s, a.c + r.c⟩ := by
            unfold stepX
            rw [if_pos h3]
            simp only
            rw [if_neg (by omega)]
          have e2 : (⟨a.s, a.c + r.c⟩ : Rn).e = r.e := by show a.s + (a.c + r.c) = r.s + r.c; have : a.e = a.s + a.c := rfl; omega
          have hle : ∀ b ∈ l, r.e ≤ b.s := fun b hb => by
            have h5 := c3 b hb
            have h6 := hbe b hb
            have h7 : ¬ (b.s < r.e ∧ r.s < b.e) := fun h => by have := hml b hb; rw [meetB_iff.2 h] at this; cases this
            omega
          obtain ⟨g1, g2⟩ := giveR_touch e2 (by show a.s < r.e; omega) re c2 hle
          rw [giveR, if_neg h1, if_neg h2, if_pos h3, g1, List.foldl_cons, hs]
          have k1 : aheadL (a :: l) r = [] := by
            unfold aheadL at *
            rw [List.filter_cons_of_neg (by simp; omega), g2]
          have k2 : behindL (a :: l) r = behindL l r := by
            unfold behindL
            rw [List.filter_cons_of_neg (by simp; omega)]
          rw [k1, k2]
          rfl
        · have h4 : a.s = r.e := by omega
          have hle : ∀ b ∈ a :: l, r.e ≤ b.s := fun b hb => by
            rcases List.mem_cons.1 hb with rfl | hb
            · omega
            · have := c3 b hb; omega
          obtain ⟨g1, g2⟩ := giveR_touch (x := r) rfl re re hl hle
          rw [g1, g2]
          rfl
end Go.Proofs.Ytbnfhhjgalphgaa
