/- What is carried on from world to world in a law's walk (layer 7). -/
import Derived.Test.YtbnfhhjgalphgaaZl
namespace Go.Proofs.Ytbnfhhjgalphgaa
open Go.RowKit

structure BW (W w : World) : Prop where
  h : Below W.heap.size W w
theorem BW.below {W w w' : World} (h : BW W w) (b : Below w.heap.size w w') : BW W w' := ⟨h.h.trans (b.mono h.h.size)⟩
/-- A box with a run. -/
structure Bx (w : World) (g : Nat) (y z : Int) : Prop where
  h : w.heap[g]? = some (.cells #[.int .i64 y, .int .i64 z] 24 (0, 0))
theorem Bx.below {w w' : World} {g : Nat} {y z : Int} (h : Bx w g y z) (b : Below w.heap.size w w') : Bx w' g y z := ⟨(b.block _ (Array.getElem?_eq_some_iff.1 h.h).1).trans h.h⟩
theorem Bx.c0 {w : World} {g : Nat} {y z : Int} (h : Bx w g y z) : w.cell? ⟨g, 0, none⟩ = some (.int .i64 y) := by rw [cell_of_row _ _ _ _ _ _ h.h]; rfl
theorem Bx.c1 {w : World} {g : Nat} {y z : Int} (h : Bx w g y z) : w.cell? ⟨g, 1, none⟩ = some (.int .i64 z) := by rw [cell_of_row _ _ _ _ _ _ h.h]; rfl
/-- A box is made. -/
theorem box_made (w : World) (y z : Int) : ∃ w', w.alloc (.cells #[.int .i64 y, .int .i64 z] 24) = w' ∧ Below w.heap.size w w' ∧ Bx w' w.heap.size y z := ⟨_, rfl, (Below.refl _ _).alloc (Nat.le_refl _) _, ⟨heap_alloc_last w _⟩⟩
theorem take_n {l : List Rn} {n : Int} {x : Rn} {m : List Rn} (h : takeT l n = some (x, m)) : 0 ≤ x.s ∧ x.s < 1099511627776 ∧ 1 ≤ x.c ∧ x.c ≤ 1099511627776 - x.s := oneB_iff.1 (takeT_some h).2.2.one
/-- Take, by what it tells. -/
theorem take_no {w : World} {v : Value} {l : List Rn} (n : Int) (h : RL w v l) (hn0 : -9223372036854775808 ≤ n) (hn1 : n < 9223372036854775808) (ht : takeT l n = none) : Calls Try.prog 10 #[v, .int .i64 n] w fun e w' => e = .returned (.tuple #[.agg #[.int .i64 0, .int .i64 0], .slice none 0 0, .bool false]) ∧ Below w.heap.size w w' := by
  have := take_rl n h hn0 hn1
  rwa [ht] at this
theorem take_yes {w : World} {v : Value} {l : List Rn} (n : Int) (h : RL w v l) (hn0 : -9223372036854775808 ≤ n) (hn1 : n < 9223372036854775808) {x : Rn} {m : List Rn} (ht : takeT l n = some (x, m)) : Calls Try.prog 10 #[v, .int .i64 n] w fun e w' => ∃ a c, e = .returned (.tuple #[.agg #[.int .i64 x.s, .int .i64 x.c], .slice a m.length c, .bool true]) ∧ RL w' (.slice a m.length c) m ∧ Below w.heap.size w w' := by
  have := take_rl n h hn0 hn1
  rwa [ht] at this
theorem give_no {w : World} {v : Value} {l : List Rn} (r : Rn) (h : RL w v l) (hl : l.length ≤ 80000) (hr1 : -9223372036854775808 ≤ r.s ∧ r.s < 9223372036854775808) (hr2 : -9223372036854775808 ≤ r.c ∧ r.c < 9223372036854775808) (ht : giveT l r = none) : Calls Try.prog 12 #[v, .agg #[.int .i64 r.s, .int .i64 r.c]] w fun e w' => e = .returned (.tuple #[.slice none 0 0, .bool false]) ∧ Below w.heap.size w w' := by
  have := give_rl r h hl hr1 hr2
  rwa [ht] at this
theorem give_yes {w : World} {v : Value} {l : List Rn} (r : Rn) (h : RL w v l) (hl : l.length ≤ 80000) (hr1 : -9223372036854775808 ≤ r.s ∧ r.s < 9223372036854775808) (hr2 : -9223372036854775808 ≤ r.c ∧ r.c < 9223372036854775808) {m : List Rn} (ht : giveT l r = some m) : Calls Try.prog 12 #[v, .agg #[.int .i64 r.s, .int .i64 r.c]] w fun e w' => ∃ a c, e = .returned (.tuple #[.slice a m.length c, .bool true]) ∧ RL w' (.slice a m.length c) m ∧ Below w.heap.size w w' := by
  have := give_rl r h hl hr1 hr2
  rwa [ht] at this
/-- states, for a law. -/
theorem states_rl {W : World} {v : Value} {l : List Int} (h : U8At W v l) (hl : l.length ≤ 1000) : Calls Try.prog 23 #[v] W fun e w' => ∃ a c, e = .returned (.slice a l.length c) ∧ l.length ≤ c ∧ Nu W W.heap.size (.slice a l.length c) (stL l) w' := by
  refine (states_any h hl).mono ?_
  rintro e w' ⟨a, c, rfl, hN⟩
  obtain ⟨_, _, hsl, hsc⟩ := hN.slice
  have e2 := Value.slice.inj hsl
  have := stL_length l
  exact ⟨a, c, rfl, by omega, hN⟩
theorem Nu.free {W w : World} {B : Nat} {a : Option Addr} {n c : Nat} {st : List Int} (h : Nu W B (.slice a n c) st w) (hc : n ≤ c) (hl : st.length ≤ 80000) : Calls Try.prog 21 #[.slice a n c] w fun e w' => ∃ a c, e = .returned (.slice a (freeL st).length c) ∧ RL w' (.slice a (freeL st).length c) (freeL st) ∧ Below w.heap.size w w' :=
  free_rl h.nums (fun a' n' c' e => by have := Value.slice.inj e; omega) hl
end Go.Proofs.Ytbnfhhjgalphgaa
