/- The root of hashes, plainly (layer 9). -/
import Derived.WalkKit
import Derived.Test.YtficmbaffkkfhaaDoorUa0
/- Roots, plainly (layer 9): Split, Root, and what follows of them; nothing of the program. -/
namespace Go.Proofs.YtficmbaffkkfhaaDoor
open Go.RowKit

/-- The greatest power of two below a number; 0 if there is none. -/
def splitN (n : Nat) : Nat := if n < 2 then 0 else 2 ^ Nat.log2 (n - 1)
theorem split_small {n : Nat} (h : n < 2) : splitN n = 0 := by unfold splitN; rw [if_pos h]
theorem split_ok {n : Nat} (h : 2 ≤ n) : 1 ≤ splitN n ∧ splitN n < n ∧ n ≤ 2 * splitN n ∧ ∃ e, splitN n = 2 ^ e := by
  unfold splitN
  rw [if_neg (by omega)]
  have h1 := Nat.log2_self_le (n := n - 1) (by omega)
  have h2 := Nat.lt_log2_self (n := n - 1)
  rw [Nat.pow_succ] at h2
  have h3 : 0 < 2 ^ Nat.log2 (n - 1) := Nat.pow_pos (by decide)
  exact ⟨by omega, by omega, by omega, _, rfl⟩
theorem pow_near {e f : Nat} (h1 : 2 ^ e < 2 * 2 ^ f) (h2 : 2 ^ f < 2 * 2 ^ e) : 2 ^ e = 2 ^ f := by
  have a1 : e < f + 1 := by
    refine Nat.lt_of_not_le fun h => ?_
    have := Nat.pow_le_pow_right (n := 2) (by decide) h
    rw [Nat.pow_succ] at this
    omega
  have a2 : f < e + 1 := by
    refine Nat.lt_of_not_le fun h => ?_
    have := Nat.pow_le_pow_right (n := 2) (by decide) h
    rw [Nat.pow_succ] at this
    omega
  rw [show e = f by omega]
/-- It is the one power of two that lies there. -/
theorem split_is {n k : Nat} (hp : ∃ e, k = 2 ^ e) (h1 : k < n) (h2 : n ≤ 2 * k) : splitN n = k := by
  obtain ⟨e, rfl⟩ := hp
  have hpos : 0 < 2 ^ e := Nat.pow_pos (by decide)
  obtain ⟨_, s2, s3, f, s4⟩ := split_ok (n := n) (by omega)
  rw [s4] at s2 s3 ⊢
  exact pow_near (by omega) (by omega)
theorem split_grown (p : Nat) : splitN (2 ^ p + 1) = 2 ^ p := by
  have : 0 < 2 ^ p := Nat.pow_pos (by decide)
  exact split_is ⟨p, rfl⟩ (by omega) (by omega)
section
variable {H : Type} (em : H) (nd : H → H → H)
/-- The root, in so many steps. -/
def rootF : Nat → List H → H
  | 0, _ => em
  | _ + 1, [] => em
  | _ + 1, [x] => x
  | n + 1, x :: y :: l => nd (rootF n ((x :: y :: l).take (splitN (l.length + 2)))) (rootF n ((x :: y :: l).drop (splitN (l.length + 2))))
def rootL (l : List H) : H := rootF em nd l.length l
theorem rootF_node {n : Nat} {l : List H} (h : 2 ≤ l.length) : rootF em nd (n + 1) l = nd (rootF em nd n (l.take (splitN l.length))) (rootF em nd n (l.drop (splitN l.length))) := by
  match l, h with
  | x :: y :: l, _ => rfl
theorem rootF_eq : ∀ {n m : Nat} {l : List H}, l.length ≤ n → l.length ≤ m → rootF em nd n l = rootF em nd m l
  | 0, 0, l, _, _ => rfl
  | 0, m + 1, l, h, _ => by
    obtain rfl : l = [] := List.length_eq_zero_iff.1 (by omega)
    rfl
  | n + 1, 0, l, _, h => by
    obtain rfl : l = [] := List.length_eq_zero_iff.1 (by omega)
    rfl
  | n + 1, m + 1, l, h1, h2 => by
    by_cases h : 2 ≤ l.length
    · obtain ⟨s1, s2, s3, _⟩ := split_ok h
      rw [rootF_node em nd h, rootF_node em nd h]
      congr 1
      · exact rootF_eq (by rw [List.length_take]; omega) (by rw [List.length_take]; omega)
      · exact rootF_eq (by rw [List.length_drop]; omega) (by rw [List.length_drop]; omega)
    · match l, h with
      | [], _ => rfl
      | [x], _ => rfl
      | x :: y :: l, h => exact absurd (by simp) h
theorem root_nil : rootL em nd [] = em := rfl
theorem root_one (x : H) : rootL em nd [x] = x := rfl
theorem root_node {l : List H} (h : 2 ≤ l.length) : rootL em nd l = nd (rootL em nd (l.take (splitN l.length))) (rootL em nd (l.drop (splitN l.length))) := by
  obtain ⟨s1, s2, s3, _⟩ := split_ok h
  obtain ⟨n, hn⟩ : ∃ n, l.length = n + 1 := ⟨l.length - 1, by omega⟩
  have e := rootF_node em nd (n := n) h
  unfold rootL
  rw [show rootF em nd l.length l = rootF em nd (n + 1) l by rw [hn], e]
  congr 1
  · exact rootF_eq em nd (by rw [List.length_take]; omega) (Nat.le_refl _)
  · exact rootF_eq em nd (by rw [List.length_drop]; omega) (Nat.le_refl _)
/-- Behind as many as a power of two says, one more. -/
theorem root_grown {l : List H} {p : Nat} (h : l.length = 2 ^ p) (x : H) : rootL em nd (l ++ [x]) = nd (rootL em nd l) x := by
  have hpos : 0 < 2 ^ p := Nat.pow_pos (by decide)
  have hl : (l ++ [x]).length = 2 ^ p + 1 := by simp [h]
  rw [root_node em nd (by omega), hl, split_grown, ← h, List.take_left, List.drop_left]
  rfl
/-- The nodes of each two. -/
def pairs : List H → List H
  | x :: y :: l => nd x y :: pairs l
  | l => l
theorem pairs_length : ∀ l : List H, (pairs nd l).length = (l.length + 1) / 2
  | [] => by simp [pairs]
  | [x] => by simp [pairs]
  | x :: y :: l => by
    rw [pairs, List.length_cons, pairs_length l, List.length_cons, List.length_cons]
    omega
theorem pairs_take : ∀ (k : Nat) (l : List H), 2 * k ≤ l.length → pairs nd (l.take (2 * k)) = (pairs nd l).take k
  | 0, l, _ => by simp [pairs]
  | k + 1, [], h => by simp at h
  | k + 1, [x], h => by simp at h; omega
  | k + 1, x :: y :: l, h => by
    rw [show 2 * (k + 1) = 2 * k + 1 + 1 by omega, List.take_succ_cons, List.take_succ_cons, pairs, pairs, List.take_succ_cons, pairs_take k l (by simp at h; omega)]
theorem pairs_drop : ∀ (k : Nat) (l : List H), 2 * k ≤ l.length → pairs nd (l.drop (2 * k)) = (pairs nd l).drop k
  | 0, l, _ => by simp
  | k + 1, [], h => by simp at h
  | k + 1, [x], h => by simp at h; omega
  | k + 1, x :: y :: l, h => by
    rw [show 2 * (k + 1) = 2 * k + 1 + 1 by omega, List.drop_succ_cons, List.drop_succ_cons, pairs, List.drop_succ_cons, pairs_drop k l (by simp at h; omega)]
/-- A level up the root is the same. -/
theorem root_level : ∀ (n : Nat) (l : List H), l.length ≤ n → rootL em nd l = rootL em nd (pairs nd l)
  | 0, l, h => by
    obtain rfl : l = [] := List.length_eq_zero_iff.1 (by omega)
    rfl
  | n + 1, l, h => by
    by_cases h3 : 3 ≤ l.length
    · obtain ⟨s1, s2, s3, e, s4⟩ := split_ok (n := l.length) (by omega)
      obtain ⟨f, rfl⟩ : ∃ f, e = f + 1 := by
        cases e with
        | zero => rw [s4] at s3; simp at s3; omega
        | succ f => exact ⟨f, rfl⟩
      have hk : splitN l.length = 2 * 2 ^ f := by rw [s4, Nat.pow_succ]; omega
      have hsp : splitN (pairs nd l).length = 2 ^ f := by
        rw [pairs_length]
        refine split_is ⟨f, rfl⟩ ?_ ?_ <;> omega
      have hf : 0 < 2 ^ f := Nat.pow_pos (by decide)
      rw [root_node em nd (by omega), root_node em nd (l := pairs nd l) (by rw [pairs_length]; omega), hsp, hk, ← pairs_take nd _ _ (by omega), ← pairs_drop nd _ _ (by omega)]
      rw [← root_level n (l.take (2 * 2 ^ f)) (by rw [List.length_take]; omega), ← root_level n (l.drop (2 * 2 ^ f)) (by rw [List.length_drop]; omega)]
    · match l, h3 with
      | [], _ => rfl
      | [x], _ => rfl
      | [x, y], _ =>
        rw [root_node em nd (by simp)]
        have e : splitN ([x, y] : List H).length = 1 := split_is ⟨0, rfl⟩ (by simp) (by simp)
        rw [e]
        rfl
      | x :: y :: z :: l, h3 => exact absurd (by simp) h3
end
end Go.Proofs.YtficmbaffkkfhaaDoor

namespace Go.Proofs.YtficmbaffkkfhaaDoor
open Go.RowKit

/-- The root of hashes. -/
def rootH (L : List (List UInt8)) : List UInt8 := rootL (shaL []) nodeL L
theorem rootH_32 {L : List (List UInt8)} (h : ∀ x ∈ L, x.length = 32) : (rootH L).length = 32 := by
  by_cases h2 : 2 ≤ L.length
  · unfold rootH
    rw [root_node _ _ h2]
    exact shaL_length _
  · match L, h2 with
    | [], _ => exact shaL_length _
    | [x], _ => exact h x (by simp)
    | x :: y :: l, h2 => exact absurd (by simp) h2
end Go.Proofs.YtficmbaffkkfhaaDoor
