/- A list of texts of one's own: where it lies, a text in it set; the rest of a list; a box of three small numbers. -/
import Derived.Test.YtalofhnjlmgloaaDoorNp
import Derived.Test.YtalofhnjlmgloaaDoorNt
namespace Go.Proofs.YtalofhnjlmgloaaDoor
open Go.RowKit

/-- The rest of a list, as the model spells it. -/
theorem TextsAt.rest {w : World} {b o n c : Nat} {l : List (List UInt8)} (h : TextsAt w (.slice (some ⟨b, o, none⟩) n c) l) (i : Nat) (hi : i ≤ n) (hc : n ≤ c) : TextsAt w (.slice (if c = i then some ⟨b, o, none⟩ else some ⟨b, o + i, none⟩) (n - i) (c - i)) (l.drop i) := by
  obtain ⟨a', c', e, h⟩ := h
  simp at e
  obtain ⟨rfl, rfl, rfl⟩ := e
  refine ⟨_, _, by rw [List.length_drop], fun j s hj => ?_⟩
  have hl := (List.getElem?_eq_some_iff.1 hj).1
  rw [List.length_drop] at hl
  rw [List.getElem?_drop] at hj
  obtain ⟨b', o', e', hc⟩ := h (i + j) s hj
  simp at e'
  obtain ⟨rfl, rfl⟩ := e'
  exact ⟨_, o + i, by rw [if_neg (by omega)], by rw [Nat.add_assoc]; exact hc⟩
theorem rest_some {b o c i m d : Nat} : ∃ b' o' n' c', Value.slice (if c = i then some ⟨b, o, none⟩ else some ⟨b, o + i, none⟩) m d = .slice (some ⟨b', o', none⟩) n' c' := by
  split
  · exact ⟨b, o, m, d, rfl⟩
  · exact ⟨b, o + i, m, d, rfl⟩
section
variable {w0 w : World} {B : Nat} {ts : List (Value × List (List UInt8))} {M : List (List UInt8)} {a : Option Addr} {n c : Nat}
theorem Mo.addr (h : Mo w0 B ts (.slice a n c) M w) (h0 : 0 < n) : ∃ g, a = some ⟨g, 0, none⟩ := by
  rcases h.owns.2 with ⟨q1, q2⟩ | ⟨g, cap, cur, q1, _⟩
  · simp at q1; omega
  · simp at q1; exact ⟨g, q1.1⟩
theorem Mo.len (h : Mo w0 B ts (.slice a n c) M w) : n = M.length := by
  obtain ⟨a', c', e⟩ := owns_slice h.owns
  simp at e; exact e.2.1
/-- A text set. -/
theorem Mo.set {g : Nat} (h : Mo w0 B ts (.slice (some ⟨g, 0, none⟩) n c) M w) (i : Nat) (hi : i < n) (y : List UInt8) :
    (∃ v, w.cell? ⟨g, i, none⟩ = some v) ∧ w.frozen? ⟨g, i, none⟩ = false ∧ Mo w0 B ts (.slice (some ⟨g, 0, none⟩) n c) (M.set i y) (w.setCell ⟨g, i, none⟩ (.string (S y))) := by
  have hn := h.len
  rcases h.owns.2 with ⟨q1, q2⟩ | ⟨g', cap, cur, q1, q2, q3, q4, q5, q6, q7⟩
  · simp at q1
  · simp at q1
    obtain ⟨rfl, rfl, rfl⟩ := q1
    have hcell := cell_of_row _ g i _ _ _ q3
    refine ⟨⟨cur[i]'(by omega), by rw [hcell]; exact Array.getElem?_eq_getElem (by omega)⟩, frozen_of_row _ _ _ _ _ q3, h.keep ((Below.refl _ _).setCell q2 _) ⟨by simp [sv], .inr ⟨g, _, _, by rw [List.length_set, hn], q2, heap_set_same q3, by rw [List.length_set]; exact q4, q5, by simpa using q6, ?_⟩⟩⟩
    rw [Array.toList_setIfInBounds, List.length_set, Nat.mul_one, List.take_set, ← Nat.mul_one M.length, q7]
    simp [sv, List.map_set]
theorem Mo.cell {g : Nat} (h : Mo w0 B ts (.slice (some ⟨g, 0, none⟩) n c) M w) (i : Nat) (x : List UInt8) (hx : M[i]? = some x) : w.cell? ⟨g, i, none⟩ = some (.string (S x)) := by
  obtain ⟨b, o, e, hc⟩ := h.all.head.cell i x hx
  simp at e
  obtain ⟨rfl, rfl⟩ := e
  rw [Nat.zero_add] at hc
  exact hc
end
/-- append to nothing: all that lay there stays. -/
theorem wp_append_new {op : Oper} {a : Act} {W : World} {K : Act → World → Prop} {Q : Exit → Act → World → Prop} (s y : Operand) (ho : op.op = .call { callee := .builtin .append, args := #[s, y], argTypes := #[23, 23] })
    {w0 : World} {B : Nat} {ts : List (Value × List (List UInt8))} (hM : Mo w0 B ts (.slice none 0 0) [] W) (xv : Value) (N : List (List UInt8)) (n : Nat) (hs : a.eval s = .slice none 0 0) (hy : a.eval y = xv) (hN : TextsAt W xv N)
    (hsome : ∃ b o n c, xv = .slice (some ⟨b, o, none⟩) n c) (hn : N.length = n) (hl : n ≤ 1000000)
    (h : ∀ xa xc w', n ≤ xc → Mo w0 B ts (.slice xa n xc) N w' → Below W.heap.size W w' → K (a.put op.dst (.slice xa n xc)) w') : op.wp Tryd.prog a W K Q := by
  subst hn
  exact wp_append_texts s y ho B (.slice none 0 0) xv [] N hs hy hM.owns hN (.inl hsome) (by simpa using hl) hM.size fun v' w' h1 h2 h3 => by
    obtain ⟨xa, xc, e⟩ := h3
    simp only [List.nil_append, List.length_nil, Nat.zero_add] at h1 e
    subst e
    exact h xa xc w' (owns_cap h1) (hM.grow h2 h1) ((Below.refl _ _).grown h2 (Nat.le_refl _) (fun k hk => by cases hk))
/-- Lists of texts, and a box of three small numbers. -/
structure P3 (w0 : World) (ts : List (Value × List (List UInt8))) (b : Nat) (x y z : Int) (w : World) : Prop where
  ts : Ts w0 ts w
  c0 : w.cell? ⟨b, 0, none⟩ = some (.int .u8 x)
  c1 : w.cell? ⟨b, 1, none⟩ = some (.int .u8 y)
  c2 : w.cell? ⟨b, 2, none⟩ = some (.int .u8 z)
theorem cell_below {w w' : World} {b o : Nat} {v : Value} (h : w.cell? ⟨b, o, none⟩ = some v) (hb : Below w.heap.size w w') : w'.cell? ⟨b, o, none⟩ = some v := by
  rw [World.cell?_of_block (hb.block b (World.block_lt_of_cell? w _ h))]; exact h
theorem P3.next {w0 : World} {ts : List (Value × List (List UInt8))} {b : Nat} {x y z : Int} {w w' : World} (h : P3 w0 ts b x y z w) (hb : Below w.heap.size w w') : P3 w0 ts b x y z w' :=
  ⟨h.ts.next hb, cell_below h.c0 hb, cell_below h.c1 hb, cell_below h.c2 hb⟩
theorem P3.drewN {w0 : World} {ts : List (Value × List (List UInt8))} {b : Nat} {x y z : Int} {w : World} (h : P3 w0 ts b x y z w) (n : Nat) : P3 w0 ts b x y z (w.drewN n) := ⟨⟨h.ts.base, below_drewN h.ts.below _, fun v l hv => h.ts.texts v l hv⟩, h.c0, h.c1, h.c2⟩
end Go.Proofs.YtalofhnjlmgloaaDoor
