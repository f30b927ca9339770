/- A list of hashes of one's own, one of which is set (layer 9). -/
import Derived.Test.YtficmbaffkkfhaaDoorW3
import Derived.Test.YtficmbaffkkfhaaDoorW4
namespace Go.Proofs.YtficmbaffkkfhaaDoor
open Go.RowKit

theorem hsv_parts {L : List (List UInt8)} {i : Nat} (x : List UInt8) (h32 : ∀ y ∈ L, y.length = 32) (hi : i < L.length) (R : List Value) :
    (hsv L ++ R).take (i * 32) ++ (hv x).toList ++ (hsv L ++ R).drop (i * 32 + 32) = hsv (L.set i x) ++ R := by
  have e1 : hsv L = hsv (L.take i) ++ ((hv L[i]).toList ++ hsv (L.drop (i + 1))) := by
    conv => lhs; rw [← List.take_append_drop i L, hsv_append, List.drop_eq_getElem_cons hi]
    rfl
  have l1 : (hsv (L.take i)).length = i * 32 := by
    rw [hsv_length (fun y hy => h32 y (List.mem_of_mem_take hy)), List.length_take, Nat.min_eq_left (by omega)]
  have l2 : (hv L[i]).toList.length = 32 := by rw [Array.length_toList, hv_size]; exact h32 _ (List.getElem_mem _)
  have e2 : L.set i x = L.take i ++ x :: L.drop (i + 1) := by
    rw [List.set_eq_take_append_cons_drop, if_pos hi]
  have e3 : hsv (L.set i x) = hsv (L.take i) ++ ((hv x).toList ++ hsv (L.drop (i + 1))) := by rw [e2, hsv_append]; rfl
  have e5 : hsv L ++ R = hsv (L.take i) ++ (((hv L[i]).toList ++ hsv (L.drop (i + 1))) ++ R) := by rw [e1, List.append_assoc]
  have e4 : (hsv L ++ R).drop (i * 32 + 32) = hsv (L.drop (i + 1)) ++ R := by
    rw [e5, ← List.append_assoc, ← List.append_assoc, List.append_assoc]
    exact List.drop_left' (by rw [List.length_append, l1, l2])
  rw [e4, e5, List.take_left' l1, e3]
  simp [List.append_assoc]
theorem Mh.set {w0 w : World} {B n cap : Nat} {a : Option Addr} {L : List (List UInt8)} (h : Mh w0 B (.slice a n cap) L w) (i : Nat) (x : List UInt8) (hn : L.length = n) (hi : i < n) (hx : x.length = 32) :
    ∃ g cur new, a = some ⟨g, 0, none⟩ ∧ B ≤ g ∧ w.heap[g]? = some (.cells cur 23 (0, 0)) ∧ i * 32 + 32 ≤ cur.size ∧ (cur.toList.take (i * 32) ++ (hv x).toList ++ cur.toList.drop (i * 32 + 32)).toArray = new ∧ Mh w0 B (.slice a n cap) (L.set i x) (w.setRow g new) := by
  rcases h.owns.2 with ⟨q1, q2⟩ | ⟨g, cp, cur, q1, q2, hg, q4, q5, q6, htk⟩
  · omega
  · obtain ⟨e1, e2, e3⟩ := Value.slice.inj q1
    have hcs : L.length * 32 ≤ cur.size := by rw [q6]; exact Nat.mul_le_mul_right _ q4
    refine ⟨g, cur, _, e1, q2, hg, by omega, rfl, ⟨below_setRow h.below q2 _, h.le, fun y hy => ?_, ?_, .inr ⟨g, cp, _, ?_, q2, heap_setRow_same hg, ?_, q5, ?_, ?_⟩⟩⟩
    · rcases List.mem_or_eq_of_mem_set hy with hy | rfl
      · exact h.h32 y hy
      · exact hx
    · rw [hsv_length (fun y hy => (List.mem_or_eq_of_mem_set hy).elim (h.h32 y) (fun e => by rw [e]; exact hx))]
    · rw [e1, e3, List.length_set, hn]
    · rw [List.length_set]; exact q4
    · have hl : (hv x).toList.length = 32 := by rw [Array.length_toList, hv_size, hx]
      have hc : cur.toList.length = cur.size := Array.length_toList
      rw [← q6]
      simp only [List.size_toArray, List.length_append, List.length_take, List.length_drop, hl, hc]
      omega
    · have hsp : cur.toList = hsv L ++ cur.toList.drop (L.length * 32) := by
        rw [← htk]; exact (List.take_append_drop _ _).symm
      have := hsv_parts x h.h32 (by omega : i < L.length) (cur.toList.drop (L.length * 32))
      rw [← hsp] at this
      rw [List.length_set]
      show List.take _ (cur.toList.take (i * 32) ++ (hv x).toList ++ cur.toList.drop (i * 32 + 32)) = _
      rw [this]
      exact List.take_left' (by rw [hsv_length (fun y hy => (List.mem_or_eq_of_mem_set hy).elim (h.h32 y) (fun e => by rw [e]; exact hx)), List.length_set])
end Go.Proofs.YtficmbaffkkfhaaDoor
