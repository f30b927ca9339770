/- A list of hashes of one's own; append to it (layer 9). -/
import Derived.Test.YtficmbaffkkfhabDoorR9c
import Derived.Deep.RegionHeld3
import Derived.Laws.MakeOwn
namespace Go.Proofs.YtficmbaffkkfhabDoor
open Go.RowKit

/-- Hashes as cells. -/
def hsv : List (List UInt8) → List Value
  | [] => []
  | x :: L => (hv x).toList ++ hsv L
theorem hsv_append : ∀ L M : List (List UInt8), hsv (L ++ M) = hsv L ++ hsv M
  | [], M => rfl
  | x :: L, M => by simp [hsv, hsv_append L M]
theorem hsv_length : ∀ {L : List (List UInt8)}, (∀ x ∈ L, x.length = 32) → (hsv L).length = L.length * 32
  | [], _ => rfl
  | x :: L, h => by
    have h1 := h x (by simp)
    have h2 := hsv_length (L := L) (fun y hy => h y (by simp [hy]))
    rw [hsv, List.length_append, Array.length_toList, hv_size, h1, h2, List.length_cons]
    omega
theorem hsv_get : ∀ {L : List (List UInt8)} {i : Nat} {x : List UInt8}, (∀ x ∈ L, x.length = 32) → L[i]? = some x → ∀ j v, (hv x).toList[j]? = some v → (hsv L)[i * 32 + j]? = some v
  | [], i, x, _, h, _, _, _ => by simp at h
  | y :: L, 0, x, h, hx, j, v, hj => by
    obtain rfl : y = x := by simpa using hx
    rw [hsv, Nat.zero_mul, Nat.zero_add, List.getElem?_append_left (List.getElem?_eq_some_iff.1 hj).1]
    exact hj
  | y :: L, i + 1, x, h, hx, j, v, hj => by
    have h1 := h y (by simp)
    have ih := hsv_get (L := L) (i := i) (fun z hz => h z (by simp [hz])) (by simpa using hx) j v hj
    rw [hsv, List.getElem?_append_right (by rw [Array.length_toList, hv_size, h1]; omega), Array.length_toList, hv_size, h1, show (i + 1) * 32 + j - 32 = i * 32 + j by omega]
    exact ih
theorem hsv_one (L : List (List UInt8)) : ∀ u ∈ hsv L, u.oneCell' = true := by
  induction L with
  | nil => intro u hu; cases hu
  | cons x L ih =>
    intro u hu
    rw [hsv] at hu
    rcases List.mem_append.1 hu with hu | hu
    · exact Array.all_eq_true_iff_forall_mem.1 (hv_one x) u (by simpa using hu)
    · exact ih u hu
/-- A list of hashes of one's own. -/
structure Mh (w0 : World) (B : Nat) (v : Value) (L : List (List UInt8)) (w : World) : Prop where
  below : Below B w0 w
  le : B ≤ w0.heap.size
  h32 : ∀ x ∈ L, x.length = 32
  owns : w.ownsRow B 22 32 v L.length (hsv L)
section
variable {w0 w w' : World} {B : Nat} {v v' : Value} {L M : List (List UInt8)}
theorem Mh.size (h : Mh w0 B v L w) : B ≤ w.heap.size := Nat.le_trans h.le h.below.size
theorem Mh.start (w : World) : Mh w w.heap.size (.slice none 0 0) [] w := ⟨Below.refl _ _, Nat.le_refl _, fun x hx => (by cases hx), World.ownsRow_nil _ _ _ _⟩
theorem Mh.next (h : Mh w0 B v L w) (hb : Below w.heap.size w w') : Mh w0 B v L w' := by
  refine ⟨h.below.trans (hb.mono h.size), h.le, h.h32, h.owns.1, ?_⟩
  rcases h.owns.2 with q | ⟨g, cap, cur, q1, q2, q3, q4⟩
  · exact .inl q
  · exact .inr ⟨g, cap, cur, q1, q2, (hb.block _ (Array.getElem?_eq_some_iff.1 q3).1).trans q3, q4⟩
theorem Mh.alloc (h : Mh w0 B v L w) (o : Obj) : Mh w0 B v L (w.alloc o) := h.next ((Below.refl _ _).alloc (Nat.le_refl _) _)
theorem Mh.slice (h : Mh w0 B v L w) : ∃ a c, v = .slice a L.length c ∧ L.length ≤ c := by
  rcases h.owns.2 with ⟨q1, q2⟩ | ⟨g, cap, cur, q1, _, _, q4, _⟩
  · exact ⟨none, 0, by rw [q1, q2], by omega⟩
  · exact ⟨_, _, q1, q4⟩
theorem Mh.at_ (h : Mh w0 B v L w) : HsAt w v L := by
  rcases h.owns.2 with ⟨q1, q2⟩ | ⟨g, cap, cur, q1, _, hg, _, _, _, htk⟩
  · refine ⟨none, 0, by rw [q1, q2], fun i x hi => ?_⟩
    have := (List.getElem?_eq_some_iff.1 hi).1
    omega
  · refine ⟨_, _, q1, fun i x hi => ⟨h.h32 x (List.mem_of_getElem? hi), g, 0, rfl, fun j u hj => ?_⟩⟩
    have hl := (List.getElem?_eq_some_iff.1 hi).1
    have h1 := hsv_get h.h32 hi j u hj
    have hj32 : j < 32 := by
      have := (List.getElem?_eq_some_iff.1 hj).1
      rwa [Array.length_toList, hv_size, h.h32 x (List.mem_of_getElem? hi)] at this
    rw [← htk, List.getElem?_take, if_pos (by omega)] at h1
    rw [cell_of_row _ _ _ _ _ _ hg, Nat.zero_add, ← Array.getElem?_toList]
    exact h1
theorem info_hash : ∃ i z, Tryd.prog.info? 22 = some i ∧ i.zero = some z ∧ z.cells.size = 32 ∧ i.size = 32 ∧ i.bytes = 32 := by
  have h : (Tryd.prog.info? 22).map (fun i => (i.zero.map (fun z => z.cells.size), i.size, i.bytes)) = some (some 32, 32, 32) := by kernel_rfl
  cases hq : Tryd.prog.info? 22 with
  | none => rw [hq] at h; cases h
  | some i =>
    rw [hq] at h
    simp at h
    obtain ⟨h1, h2, h3⟩ := h
    obtain ⟨z, hz, hs⟩ := h1
    exact ⟨i, z, rfl, hz, hs, h2, h3⟩
/-- append of hashes (some, in memory) to a list of one's own. -/
theorem wp_append_mh {o : Oper} {a : Act} {K : Act → World → Prop} {Q : Exit → Act → World → Prop} (s y : Operand) (ho : o.op = .call { callee := .builtin .append, args := #[s, y], argTypes := #[23, 23] })
    (hM : Mh w0 B v L w) (ad : Addr) (c : Nat) (hs : a.eval s = v) (hy : a.eval y = .slice (some ad) M.length c) (hN : HsAt w (.slice (some ad) M.length c) M) (R : List (List UInt8)) (n : Nat) (hR : L ++ M = R) (hn : R.length = n) (hl : n ≤ 100000)
    (h : ∀ xa xc w', n ≤ xc → Mh w0 B (.slice xa n xc) R w' → K (a.put o.dst (.slice xa n xc)) w') : o.wp Tryd.prog a w K Q := by
  subst hR hn
  obtain ⟨ia, z, i1, i2, i3, i4, i5⟩ := info_hash
  have h32 := hN.len
  rw [List.length_append] at *
  refine wp_append_own w s y 23 ho B 22 ia z 32 32 Tryd.underlying23 i1 i2 i4 i5 i3 (by omega) v L.length (hsv L) hs hM.owns ad M.length c (hsv M) hy (hsv_length h32) (fun j u hj => ?_) (hsv_one M) (by simp only [maxLen]; omega) (by omega) hM.size (fun v' w' r1 r2 _ => ?_)
  · have hjl := (List.getElem?_eq_some_iff.1 hj).1
    rw [hsv_length h32] at hjl
    obtain ⟨x, hx⟩ : ∃ x, M[j / 32]? = some x := ⟨_, List.getElem?_eq_getElem (by omega)⟩
    obtain ⟨hx32, b, off, e2, hr⟩ := hN.cells.2 (j / 32) x hx
    obtain rfl : ad = ⟨b, off, none⟩ := by simpa using e2
    obtain ⟨u', hu'⟩ : ∃ u', (hv x).toList[j % 32]? = some u' := ⟨_, List.getElem?_eq_getElem (by rw [Array.length_toList, hv_size, hx32]; omega)⟩
    have h1 := hsv_get h32 hx _ _ hu'
    rw [show j / 32 * 32 + j % 32 = j by omega, hj] at h1
    have h2 := hr w (Below.refl _ _) _ _ hu'
    rw [Addr.add_mid, show off + j = off + j / 32 * 32 + j % 32 by omega, h2, Option.some.inj h1]
  · rcases id r1.2 with ⟨q1, q2⟩ | ⟨g, cap, cur, rfl, _, _, q4, _⟩
    · rw [q1]
      rw [q1] at r1
      have e0 : (Value.slice none 0 0) = .slice none (L.length + M.length) 0 := by rw [q2]
      rw [e0]
      refine h _ 0 w' (by omega) ⟨hM.below.grown r2 hM.size (fun j hj => (World.ownsRow.lt hM.owns j hj).1), hM.le, fun x hx => ?_, by rw [List.length_append, hsv_append, ← e0]; exact r1⟩
      rcases List.mem_append.1 hx with hx | hx
      · exact hM.h32 x hx
      · exact h32 x hx
    · refine h _ cap w' q4 ⟨hM.below.grown r2 hM.size (fun j hj => (World.ownsRow.lt hM.owns j hj).1), hM.le, fun x hx => ?_, by rw [List.length_append, hsv_append]; exact r1⟩
      rcases List.mem_append.1 hx with hx | hx
      · exact hM.h32 x hx
      · exact h32 x hx
theorem wpList_append_mh {ops : Array Oper} {rest : List Oper} {o : Oper} {a : Act} {Q : Exit → Act → World → Prop} (hgd : o.guard = none) (s y : Operand) (ho : o.op = .call { callee := .builtin .append, args := #[s, y], argTypes := #[23, 23] })
    (hM : Mh w0 B v L w) (ad : Addr) (c : Nat) (hs : a.eval s = v) (hy : a.eval y = .slice (some ad) M.length c) (hN : HsAt w (.slice (some ad) M.length c) M) (R : List (List UInt8)) (n : Nat) (hR : L ++ M = R) (hn : R.length = n) (hl : n ≤ 100000)
    (h : ∀ xa xc w', n ≤ xc → Mh w0 B (.slice xa n xc) R w' → wpList Tryd.prog ops Q rest (a.put o.dst (.slice xa n xc)) w') : wpList Tryd.prog ops Q (o :: rest) a w :=
  wpList_plain hgd fun _ hK => wp_append_mh s y ho hM ad c hs hy hN R n hR hn hl fun xa xc w' h1 h2 => hK _ _ (h xa xc w' h1 h2)
end
end Go.Proofs.YtficmbaffkkfhabDoor
