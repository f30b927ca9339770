/- Lists of which one hash is another one: unlike roots, or two pairs of one node, plainly (layer 9). -/
import Derived.Test.YtnigcngaegafoaaDoorR9a
namespace Go.Proofs.YtnigcngaegafoaaDoor
open Go.RowKit

section
variable {H : Type} [DecidableEq H] (em : H) (nd : H → H → H)
/-- Are two unlike pairs on the way of a place one node's? -/
def colF : Nat → List H → List H → Nat → Bool
  | 0, _, _, _ => false
  | n + 1, a, b, i =>
    if 2 ≤ a.length then
      if (rootL em nd (a.take (splitN a.length)) ≠ rootL em nd (b.take (splitN a.length)) ∨ rootL em nd (a.drop (splitN a.length)) ≠ rootL em nd (b.drop (splitN a.length))) ∧ nd (rootL em nd (a.take (splitN a.length))) (rootL em nd (a.drop (splitN a.length))) = nd (rootL em nd (b.take (splitN a.length))) (rootL em nd (b.drop (splitN a.length))) then true
      else if i < splitN a.length then colF n (a.take (splitN a.length)) (b.take (splitN a.length)) i else colF n (a.drop (splitN a.length)) (b.drop (splitN a.length)) (i - splitN a.length)
    else false
theorem colF_meets : ∀ (n : Nat) (a b : List H) (i : Nat), a.length ≤ n → a.length = b.length → i < a.length → (∀ j, j ≠ i → a[j]? = b[j]?) → a[i]? ≠ b[i]? → rootL em nd a = rootL em nd b → colF em nd n a b i = true
  | 0, a, b, i, h, _, hi, _, _, _ => by omega
  | n + 1, a, b, i, h, hl, hi, hsame, hne, hr => by
    unfold colF
    by_cases h2 : 2 ≤ a.length
    · obtain ⟨s1, s2, s3, _⟩ := split_ok h2
      rw [if_pos h2]
      split
      · rfl
      · rename_i hc
        have hnd : nd (rootL em nd (a.take (splitN a.length))) (rootL em nd (a.drop (splitN a.length))) = nd (rootL em nd (b.take (splitN a.length))) (rootL em nd (b.drop (splitN a.length))) := by
          rw [← root_node em nd h2, hr, root_node em nd (by omega), hl]
        have hx : rootL em nd (a.take (splitN a.length)) = rootL em nd (b.take (splitN a.length)) ∧ rootL em nd (a.drop (splitN a.length)) = rootL em nd (b.drop (splitN a.length)) := by
          constructor
          · exact Decidable.byContradiction fun hh => hc ⟨.inl hh, hnd⟩
          · exact Decidable.byContradiction fun hh => hc ⟨.inr hh, hnd⟩
        generalize splitN a.length = k at *
        split
        · rename_i hik
          refine colF_meets n _ _ i (by rw [List.length_take]; omega) (by rw [List.length_take, List.length_take, hl]) (by rw [List.length_take]; omega) (fun j hj => ?_) ?_ hx.1
          · rw [List.getElem?_take, List.getElem?_take, hsame j hj]
          · rw [List.getElem?_take, List.getElem?_take, if_pos hik, if_pos hik]; exact hne
        · rename_i hik
          refine colF_meets n _ _ (i - k) (by rw [List.length_drop]; omega) (by rw [List.length_drop, List.length_drop, hl]) (by rw [List.length_drop]; omega) (fun j hj => ?_) ?_ hx.2
          · rw [List.getElem?_drop, List.getElem?_drop, hsame (k + j) (by omega)]
          · rw [List.getElem?_drop, List.getElem?_drop, show k + (i - k) = i by omega]; exact hne
    · match a, b, hl, h2 with
      | [], _, _, _ => simp at hi
      | [x], [y], _, _ =>
        have hi0 : i = 0 := by simpa using hi
        subst hi0
        exact absurd (by simpa [root_one] using hr : x = y) (fun e => hne (by rw [e]))
      | x :: y :: l, _, _, h2 => exact absurd (by simp) h2
/-- Of lists that differ in one place at most: the roots are alike just if the hashes are, or there are two pairs of one node. -/
theorem apart_or {a b : List H} {i : Nat} (hl : a.length = b.length) (hi : i < a.length) (hsame : ∀ j, j ≠ i → a[j]? = b[j]?) :
    ((decide (rootL em nd a = rootL em nd b) == decide (a[i]? = b[i]?)) || colF em nd a.length a b i) = true := by
  by_cases he : a[i]? = b[i]?
  · have hab : a = b := by
      apply List.ext_getElem?
      intro j
      by_cases hj : j = i
      · rw [hj]; exact he
      · exact hsame j hj
    subst hab
    simp
  · by_cases hr : rootL em nd a = rootL em nd b
    · rw [colF_meets em nd _ a b i (Nat.le_refl _) hl hi hsame he hr]
      simp
    · simp [he, hr]
end
end Go.Proofs.YtnigcngaegafoaaDoor
