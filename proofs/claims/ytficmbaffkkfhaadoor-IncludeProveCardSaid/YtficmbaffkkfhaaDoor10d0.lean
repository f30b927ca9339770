/- append of hashes, whoever is nil (layer 10; cut out of 10d). -/
import Derived.Test.YtficmbaffkkfhaaDoorW3
import Derived.Lib.AppendZeros
import Derived.Lib.SliceRun
namespace Go.Proofs.YtficmbaffkkfhaaDoor
open Go.RowKit

theorem happend_none {P : Program} {w : World} (t ty e : TypeId) (i : TypeInfo) (ht : P.underlying t = some (.slice e)) (hi : P.info? e = some i) (xa : Option Addr) (c' : Nat) :
    (Builtin.append_ #[t, t] ty #[.slice none 0 0, .slice xa 0 c']).run P w = .ok (.slice none 0 0) w := by
  cases xa <;> simp [Builtin.append_, run_underlying ht, sizeOf, typeInfo, hi, Builtin.lenOf, Builtin.firstCells, loadCells, loadCellsFrom]
theorem happend_nothing {P : Program} {w : World} (t ty e : TypeId) (i : TypeInfo) (ht : P.underlying t = some (.slice e)) (hi : P.info? e = some i) (ad : Addr) (n c c' : Nat) (hn : n ≤ c) :
    (Builtin.append_ #[t, t] ty #[.slice (some ad) n c, .slice none 0 c']).run P w = .ok (.slice (some ad) n c) w := by
  simp [Builtin.append_, run_underlying ht, sizeOf, typeInfo, hi, Builtin.lenOf, Builtin.firstCells, loadCells, hn, storeCells]
section
variable {w0 w : World} {B : Nat} {v : Value} {L M : List (List UInt8)}
/-- append of hashes to a list of one's own, whoever is nil: its row alone may have turned. -/
theorem wp_append_mq {o : Oper} {a : Act} {K : Act → World → Prop} {Q : Exit → Act → World → Prop} (s y : Operand) (ho : o.op = .call { callee := .builtin .append, args := #[s, y], argTypes := #[22, 22] })
    (hM : Mh w0 B v L w) (xv : Value) (hs : a.eval s = v) (hy : a.eval y = xv) (hN : HsAt w xv M) (R : List (List UInt8)) (n : Nat) (hR : L ++ M = R) (hn : R.length = n) (hl : n ≤ 100000)
    (h : ∀ xa xc w', n ≤ xc → Mh w0 B (.slice xa n xc) R w' → w.grownBy w' v.ownBlock → K (a.put o.dst (.slice xa n xc)) w') : o.wp Tryd.prog a w K Q := by
  subst hR hn
  obtain ⟨ia, z, i1, i2, i3, i4, i5⟩ := info_hash
  obtain ⟨xa, xc, rfl, -⟩ := id hN
  have h32 := hN.len
  rw [List.length_append] at *
  cases xa with
  | none =>
    have hN0 : M = [] := by
      cases M with
      | nil => rfl
      | cons z k => obtain ⟨_, b, o, e, _⟩ := hN.cells.2 0 z rfl; cases e
    subst hN0
    rcases hM.owns.2 with ⟨q1, q2⟩ | ⟨g, cap, cur, q1, q2, q3, q4, q5⟩
    · have hL0 : L = [] := List.length_eq_zero_iff.1 q2
      subst hL0 q1
      have hap := happend_none (P := Tryd.prog) (w := w) 22 o.type 23 ia Tryd.underlying22 i1 none xc
      unfold Oper.wp execOp
      simp only [ho, resolve, invoke, builtin, Sem.run_bind, Sem.run_pure, Result.andThen_ok, List.map_toArray, List.map_cons, List.map_nil, hs, hy, List.length_nil, hap]
      exact h none 0 w (Nat.le_refl _) (by simpa using hM) ⟨rfl, rfl, rfl, Nat.le_refl _, fun _ _ _ => rfl⟩
    · subst q1
      have hap := happend_nothing (P := Tryd.prog) (w := w) 22 o.type 23 ia Tryd.underlying22 i1 ⟨g, 0, none⟩ L.length cap xc q4
      unfold Oper.wp execOp
      simp only [ho, resolve, invoke, builtin, Sem.run_bind, Sem.run_pure, Result.andThen_ok, List.map_toArray, List.map_cons, List.map_nil, hs, hy, List.length_nil, hap]
      exact h _ cap w (by simpa using q4) (by simpa using hM) ⟨rfl, rfl, rfl, Nat.le_refl _, fun _ _ _ => rfl⟩
  | some ad =>
    by_cases hz : M.length = 0 ∧ v = .slice none 0 0
    · obtain ⟨z1, rfl⟩ := hz
      obtain rfl : M = [] := List.length_eq_zero_iff.1 z1
      have hL0 : L = [] := by
        rcases hM.owns.2 with ⟨_, q2⟩ | ⟨g, cap, cur, q1, _⟩
        · exact List.length_eq_zero_iff.1 q2
        · cases q1
      subst hL0
      have hap := happend_none (P := Tryd.prog) (w := w) 22 o.type 23 ia Tryd.underlying22 i1 (some ad) xc
      unfold Oper.wp execOp
      simp only [ho, resolve, invoke, builtin, Sem.run_bind, Sem.run_pure, Result.andThen_ok, List.map_toArray, List.map_cons, List.map_nil, hs, hy, List.length_nil, hap]
      exact h none 0 w (Nat.le_refl _) (by simpa using hM) ⟨rfl, rfl, rfl, Nat.le_refl _, fun _ _ _ => rfl⟩
    · refine wp_append_own w s y 22 ho B 23 ia z 32 32 Tryd.underlying22 i1 i2 i4 i5 i3 (by omega) v L.length (hsv L) hs hM.owns ad M.length xc (hsv M) hy (hsv_length h32) (fun j u hj => ?_) (hsv_one M) (by simp only [maxLen]; omega) (by omega) hM.size (fun v' w' r1 r2 _ => ?_)
      · have hjl := (List.getElem?_eq_some_iff.1 hj).1
        rw [hsv_length h32] at hjl
        obtain ⟨x, hx⟩ : ∃ x, M[j / 32]? = some x := ⟨_, List.getElem?_eq_getElem (by omega)⟩
        obtain ⟨hx32, b, off, e2, hr⟩ := hN.cells.2 (j / 32) x hx
        obtain rfl : ad = ⟨b, off, none⟩ := by simpa using e2
        obtain ⟨u', hu'⟩ : ∃ u', (hv x).toList[j % 32]? = some u' := ⟨_, List.getElem?_eq_getElem (by rw [Array.length_toList, hv_size, hx32]; omega)⟩
        have h1 := hsv_get h32 hx _ _ hu'
        rw [show j / 32 * 32 + j % 32 = j by omega, hj] at h1
        have h2 := hr w (Below.refl _ _) _ _ hu'
        rw [Addr.add_mid, show off + j = off + j / 32 * 32 + j % 32 by omega, h2, Option.some.inj h1]
      · have hM' : ∀ u, w'.ownsRow B 23 32 u (L.length + M.length) (hsv L ++ hsv M) → Mh w0 B u (L ++ M) w' := fun u r1 => by
          refine ⟨hM.below.grown r2 hM.size (fun j hj => (World.ownsRow.lt hM.owns j hj).1), hM.le, fun x hx => ?_, by rw [List.length_append, hsv_append]; exact r1⟩
          rcases List.mem_append.1 hx with hx | hx
          · exact hM.h32 x hx
          · exact h32 x hx
        rcases id r1.2 with ⟨q1, q2⟩ | ⟨g, cap, cur, rfl, _, _, q4, _⟩
        · rw [q1]
          rw [q1] at r1
          have e0 : (Value.slice none 0 0) = .slice none (L.length + M.length) 0 := by rw [q2]
          rw [e0] at r1 ⊢
          exact h _ 0 w' (by omega) (hM' _ r1) r2
        · exact h _ cap w' q4 (hM' _ r1) r2
theorem wpList_append_mq {ops : Array Oper} {rest : List Oper} {o : Oper} {a : Act} {Q : Exit → Act → World → Prop} (hgd : o.guard = none) (s y : Operand) (ho : o.op = .call { callee := .builtin .append, args := #[s, y], argTypes := #[22, 22] })
    (hM : Mh w0 B v L w) (xv : Value) (hs : a.eval s = v) (hy : a.eval y = xv) (hN : HsAt w xv M) (R : List (List UInt8)) (n : Nat) (hR : L ++ M = R) (hn : R.length = n) (hl : n ≤ 100000)
    (h : ∀ xa xc w', n ≤ xc → Mh w0 B (.slice xa n xc) R w' → w.grownBy w' v.ownBlock → wpList Tryd.prog ops Q rest (a.put o.dst (.slice xa n xc)) w') : wpList Tryd.prog ops Q (o :: rest) a w :=
  wpList_plain hgd fun _ hK => wp_append_mq s y ho hM xv hs hy hN R n hR hn hl fun xa xc w' h1 h2 h3 => hK _ _ (h xa xc w' h1 h2 h3)
end
end Go.Proofs.YtficmbaffkkfhaaDoor
