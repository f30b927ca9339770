/- append of hashes to an empty list that has no room: a list of one's own, made new (layer 9). -/
import Derived.Test.YtficmbaffkkfhabDoorR9h
namespace Go.Proofs.YtficmbaffkkfhabDoor
open Go.RowKit

theorem run_append_hs_new {w : World} (ty : TypeId) (e : Addr) (ad : Addr) (c : Nat) (M : List (List UInt8)) (hN : HsAt w (.slice (some ad) M.length c) M) (hne : 0 < M.length) (hl : M.length ≤ 100000) :
    ∃ xc w', (Builtin.append_ #[23, 23] ty #[.slice (some e) 0 0, .slice (some ad) M.length c]).run Tryd.prog w = .ok (.slice (some ⟨w.heap.size, 0, none⟩) M.length xc) w' ∧ M.length ≤ xc ∧ Mh w w.heap.size (.slice (some ⟨w.heap.size, 0, none⟩) M.length xc) M w' := by
  obtain ⟨ia, z, i1, i2, i3, i4, i5⟩ := info_hash
  have h32 := hN.len
  have hnl : (hsv M).length = M.length * 32 := hsv_length h32
  have hnews : ∀ j u, (hsv M)[j]? = some u → w.cell? (ad.add j) = some u := fun j u hj => by
    have hjl := (List.getElem?_eq_some_iff.1 hj).1
    rw [hnl] at hjl
    obtain ⟨x, hx⟩ : ∃ x, M[j / 32]? = some x := ⟨_, List.getElem?_eq_getElem (by omega)⟩
    obtain ⟨hx32, b, off, e2, hr⟩ := hN.cells.2 (j / 32) x hx
    obtain rfl : ad = ⟨b, off, none⟩ := by simpa using e2
    obtain ⟨u', hu'⟩ : ∃ u', (hv x).toList[j % 32]? = some u' := ⟨_, List.getElem?_eq_getElem (by rw [Array.length_toList, hv_size, hx32]; omega)⟩
    have h1 := hsv_get h32 hx _ _ hu'
    rw [show j / 32 * 32 + j % 32 = j by omega, hj] at h1
    have h2 := hr w (Below.refl _ _) _ _ hu'
    rw [Addr.add_mid, show off + j = off + j / 32 * 32 + j % 32 by omega, h2, Option.some.inj h1]
  have hr := run_append_grow (P := Tryd.prog) w 23 ty 22 ia z Tryd.underlying23 i1 i2 e 0 0 [] (by simp) (fun j v hj => by cases hj) ad M.length c (hsv M) (by rw [hnl, i4]) hnews (by omega) (by omega) (growslice_fits (by omega) (by rw [i5]; omega))
  have hge := grownCap_ge w (0 + M.length) 0 22
  have hcm : grownCap w (0 + M.length) 0 22 ≤ maxLen := grownCap_le_maxLen w _ 0 _ (by simp only [maxLen]; omega)
  generalize grownCap w (0 + M.length) 0 22 = q at *
  rw [Nat.zero_add] at hr hge
  refine ⟨q, _, hr, hge, ⟨(Below.refl _ _).drew.alloc (Nat.le_refl _) _, Nat.le_refl _, h32, ?_, .inr ⟨w.heap.size, q, _, rfl, Nat.le_refl _, heap_alloc_new w.drew _, hge, hcm, ?_, ?_⟩⟩⟩
  · exact hnl
  · simp only [Array.size_append, List.size_toArray, size_zeroCells, i3, hnl, List.length_nil, Nat.zero_add]
    omega
  · simp only [Array.toList_append, List.nil_append]
    rw [← hnl]
    exact List.take_left
theorem wp_append_hs_new {o : Oper} {a : Act} {w : World} {K : Act → World → Prop} {Q : Exit → Act → World → Prop} (s y : Operand) (ho : o.op = .call { callee := .builtin .append, args := #[s, y], argTypes := #[23, 23] })
    (e : Addr) (hs : a.eval s = .slice (some e) 0 0) (ad : Addr) (c : Nat) (M : List (List UInt8)) (n : Nat) (hn : M.length = n) (hy : a.eval y = .slice (some ad) n c) (hN : HsAt w (.slice (some ad) n c) M) (hne : 0 < n) (hl : n ≤ 100000)
    (h : ∀ xa xc w', n ≤ xc → Mh w w.heap.size (.slice xa n xc) M w' → K (a.put o.dst (.slice xa n xc)) w') : o.wp Tryd.prog a w K Q := by
  subst hn
  obtain ⟨xc, w', hr, h1, h2⟩ := run_append_hs_new (w := w) o.type e ad c M hN hne hl
  unfold Oper.wp execOp
  simp only [ho, resolve, invoke, builtin, Sem.run_bind, Sem.run_pure, Result.andThen_ok, List.map_toArray, List.map_cons, List.map_nil, hs, hy, hr]
  exact h _ xc w' h1 h2
end Go.Proofs.YtficmbaffkkfhabDoor
