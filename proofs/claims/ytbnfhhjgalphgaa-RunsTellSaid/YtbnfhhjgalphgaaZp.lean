/- A list of numbers that turns beside lists of runs that came later (layer 7). -/
import Derived.Test.YtbnfhhjgalphgaaZn
namespace Go.Proofs.Ytbnfhhjgalphgaa
open Go.RowKit

/-- A list of runs in blocks that came later than B. -/
structure RB (B : Nat) (w : World) (v : Value) (l : List Rn) : Prop where
  rl : RL w v l
  late : ∀ i, v.ownBlock = some i → B ≤ i
theorem RB.below {B : Nat} {w w' : World} {v : Value} {l : List Rn} (h : RB B w v l) (b : Below w.heap.size w w') : RB B w' v l := ⟨h.rl.below b, h.late⟩
theorem RB.mono {B B' : Nat} {w : World} {v : Value} {l : List Rn} (h : RB B w v l) (hb : B' ≤ B) : RB B' w v l := ⟨h.rl, fun i hi => Nat.le_trans hb (h.late i hi)⟩
theorem cell_other {w : World} {g k b o : Nat} {x : Value} (h : b ≠ g) : (w.setCell ⟨g, k, none⟩ x).cell? ⟨b, o, none⟩ = w.cell? ⟨b, o, none⟩ :=
  World.cell?_of_block (by rw [Below.heap_setCell _ _ _ _ h])
theorem RB.set {B : Nat} {w : World} {v : Value} {l : List Rn} (h : RB B w v l) {g : Nat} (hg : g < B) (k : Nat) (x : Value) : RB B (w.setCell ⟨g, k, none⟩ x) v l := by
  refine ⟨⟨?_, h.rl.ok, h.rl.chk, h.rl.len⟩, h.late⟩
  obtain ⟨a, c, rfl, hh⟩ := h.rl.at_
  refine ⟨a, c, rfl, fun i r hi => ?_⟩
  obtain ⟨b, o, rfl, h1, h2⟩ := hh i r hi
  have hb : B ≤ b := h.late b rfl
  exact ⟨b, o, rfl, by rw [cell_other (by omega)]; exact h1, by rw [cell_other (by omega)]; exact h2⟩
theorem owns_late {w : World} {B : Nat} {v : Value} {n : Nat} {xs : List Value} (h : w.ownsRow B 24 2 v n xs) : ∀ i, v.ownBlock = some i → B ≤ i := fun i hi => (World.ownsRow.lt h i hi).1
theorem give_yb {w : World} {v : Value} {l : List Rn} (r : Rn) (h : RL w v l) (hl : l.length ≤ 80000) (hr1 : -9223372036854775808 ≤ r.s ∧ r.s < 9223372036854775808) (hr2 : -9223372036854775808 ≤ r.c ∧ r.c < 9223372036854775808) {m : List Rn} (ht : giveT l r = some m) : Calls Try.prog 12 #[v, .agg #[.int .i64 r.s, .int .i64 r.c]] w fun e w' => ∃ a c, e = .returned (.tuple #[.slice a m.length c, .bool true]) ∧ RB w.heap.size w' (.slice a m.length c) m ∧ Below w.heap.size w w' := by
  refine (give_any r h.at_ h.ok (fit_of h.chk) (by omega) hr1 hr2).mono ?_
  intro e w' hh
  rw [ht] at hh
  obtain ⟨a, c, rfl, ho, hb⟩ := hh
  have hm := give_len ht
  exact ⟨a, c, rfl, ⟨rl_owned ho (give_ok ht).2.2.2.chk (by omega), owns_late ho⟩, hb⟩
/-- A list of numbers of one's own, carried on. -/
structure Nw (W : World) (v : Value) (M : List Int) (w : World) : Prop where
  h : Nu W W.heap.size v M w
section
variable {W w w' : World} {v : Value} {M : List Int} {a : Option Addr} {n c : Nat}
theorem Nw.below (h : Nw W v M w) (b : Below w.heap.size w w') : Nw W v M w' := ⟨h.h.next b⟩
theorem Nw.bw (h : Nw W v M w) : BW W w := ⟨h.h.below⟩
theorem Nw.len (h : Nw W (.slice a n c) M w) : n = M.length := by
  obtain ⟨_, _, e, _⟩ := h.h.slice
  exact (Value.slice.inj e).2.1
theorem Nw.free (h : Nw W (.slice a n c) M w) (hl : M.length ≤ 80000) : Calls Try.prog 21 #[.slice a n c] w fun e w' => ∃ a c, e = .returned (.slice a (freeL M).length c) ∧ RB w.heap.size w' (.slice a (freeL M).length c) (freeL M) ∧ Below w.heap.size w w' := by
  obtain ⟨_, _, e, hc⟩ := h.h.slice
  refine (free_any h.h.nums (fun a' n' c' e' => by have e1 := Value.slice.inj e; have e2 := Value.slice.inj e'; omega) (by omega)).mono ?_
  rintro e w' ⟨a, c, rfl, hM⟩
  have := free_len M
  exact ⟨a, c, rfl, ⟨rl_owned hM.owns (free_chk hl) (by omega), owns_late hM.owns⟩, hM.below⟩
theorem niv_set (M : List Int) (k : Nat) (y : Int) : niv (M.set k y) = (niv M).set k (.int .i64 y) := by simp [niv, List.map_set]
/-- One of them is read, and set. -/
theorem Nw.at_ (h : Nw W (.slice a n c) M w) {k : Nat} {x : Int} (hx : M[k]? = some x) : ∃ g, a = some ⟨g, 0, none⟩ ∧ g < w.heap.size ∧ w.cell? ⟨g, k, none⟩ = some (.int .i64 x) ∧ w.frozen? ⟨g, k, none⟩ = false ∧ ∀ y, Nw W (.slice a n c) (M.set k y) (w.setCell ⟨g, k, none⟩ (.int .i64 y)) := by
  have hk := (List.getElem?_eq_some_iff.1 hx).1
  obtain ⟨h1, hh⟩ := h.h.owns
  rcases hh with ⟨h2, h3⟩ | ⟨g, cap, cur, h2, hg0, hg, hnc, hcm, hcs, htk⟩
  · omega
  · obtain ⟨rfl, rfl, rfl⟩ := Value.slice.inj h2
    have hcur : cur[k]? = some (.int .i64 x) := by
      have g1 : (niv M)[k]? = some (.int .i64 x) := by rw [niv, List.getElem?_map, hx]; rfl
      rw [← htk, List.getElem?_take, if_pos (by omega)] at g1
      rwa [Array.getElem?_toList] at g1
    refine ⟨g, rfl, (Array.getElem?_eq_some_iff.1 hg).1, by rw [cell_of_row _ _ _ _ _ _ hg]; exact hcur, frozen_of_row _ _ _ _ _ hg, fun y => ⟨⟨Below.setCell h.h.below hg0 _, h.h.le, by rw [niv_length, List.length_set, Nat.mul_one], .inr ⟨g, _, _, by rw [List.length_set], hg0, heap_set_same hg, by rw [List.length_set]; exact hnc, hcm, by simpa using hcs, ?_⟩⟩⟩⟩
    rw [Array.toList_setIfInBounds, List.length_set, List.take_set, htk, niv_set]
end
theorem tot_fits {l : List Rn} : 0 ≤ totL l ∧ totL l ≤ 1099511627776 := tot_bound l
end Go.Proofs.Ytbnfhhjgalphgaa
