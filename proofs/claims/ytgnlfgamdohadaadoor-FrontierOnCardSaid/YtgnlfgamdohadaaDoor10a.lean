/- A frontier plainly: the ones of a number, the roots of the full trees, one leaf more (layer 10). -/
import Derived.Test.YtgnlfgamdohadaaDoorR9a
import Derived.Lib.BitFns
namespace Go.Proofs.YtgnlfgamdohadaaDoor
open Go.RowKit

/-- How many 1 bits a number has. -/
def pcN (n : Nat) : Nat := if n = 0 then 0 else n % 2 + pcN (n / 2)
  termination_by n
/-- How many 1 bits stand at its end. -/
def tlN (n : Nat) : Nat := if n % 2 = 1 then tlN (n / 2) + 1 else 0
  termination_by n
theorem pc_zero : pcN 0 = 0 := by rw [pcN]; rfl
theorem pc_two (m : Nat) : pcN (2 * m) = pcN m := by
  by_cases h : m = 0
  · subst h; rfl
  · rw [pcN, if_neg (by omega), show 2 * m % 2 = 0 by omega, show 2 * m / 2 = m by omega, Nat.zero_add]
theorem pc_odd (m : Nat) : pcN (2 * m + 1) = pcN m + 1 := by
  rw [pcN, if_neg (by omega), show (2 * m + 1) % 2 = 1 by omega, show (2 * m + 1) / 2 = m by omega, Nat.add_comm]
theorem tl_two (m : Nat) : tlN (2 * m) = 0 := by rw [tlN, if_neg (by omega)]
theorem tl_odd (m : Nat) : tlN (2 * m + 1) = tlN m + 1 := by rw [tlN, if_pos (by omega), show (2 * m + 1) / 2 = m by omega]
theorem two_or (n : Nat) : (∃ m, n = 2 * m) ∨ ∃ m, n = 2 * m + 1 := by
  rcases Nat.mod_two_eq_zero_or_one n with h | h
  · exact .inl ⟨n / 2, by omega⟩
  · exact .inr ⟨n / 2, by omega⟩
theorem tl_le (n : Nat) : tlN n ≤ pcN n := by
  induction n using Nat.strongRecOn with
  | _ n ih =>
    rcases two_or n with ⟨m, rfl⟩ | ⟨m, rfl⟩
    · rw [tl_two]; omega
    · rw [tl_odd, pc_odd]
      have := ih m (by omega)
      omega
/-- One more. -/
theorem pc_succ (n : Nat) : pcN (n + 1) = pcN n - tlN n + 1 := by
  induction n using Nat.strongRecOn with
  | _ n ih =>
    rcases two_or n with ⟨m, rfl⟩ | ⟨m, rfl⟩
    · rw [tl_two, pc_odd, pc_two]; omega
    · rw [tl_odd, pc_odd, show 2 * m + 1 + 1 = 2 * (m + 1) by omega, pc_two, ih m (by omega)]
      have := tl_le m
      omega
theorem pc_le : ∀ (k n : Nat), n < 2 ^ k → pcN n ≤ k
  | 0, n, h => by
    obtain rfl : n = 0 := by simpa using h
    rw [pc_zero]; omega
  | k + 1, n, h => by
    rw [Nat.pow_succ] at h
    rcases two_or n with ⟨m, rfl⟩ | ⟨m, rfl⟩
    · rw [pc_two]; have := pc_le k m (by omega); omega
    · rw [pc_odd]; have := pc_le k m (by omega); omega
theorem pc_pos {n : Nat} (h : n ≠ 0) : 0 < pcN n := by
  induction n using Nat.strongRecOn with
  | _ n ih =>
    rcases two_or n with ⟨m, rfl⟩ | ⟨m, rfl⟩
    · rw [pc_two]; exact ih m (by omega) (by omega)
    · rw [pc_odd]; omega
theorem pc_pow (p : Nat) : pcN (2 ^ p) = 1 := by
  induction p with
  | zero => rw [show 2 ^ 0 = 2 * 0 + 1 by rfl, pc_odd, pc_zero]
  | succ p ih => rw [Nat.pow_succ, Nat.mul_comm, pc_two, ih]
theorem pc_full (p : Nat) : pcN (2 ^ p - 1) = p := by
  induction p with
  | zero => exact pc_zero
  | succ p ih =>
    have : 0 < 2 ^ p := Nat.pow_pos (by decide)
    rw [Nat.pow_succ, show 2 ^ p * 2 - 1 = 2 * (2 ^ p - 1) + 1 by omega, pc_odd, ih]
section
variable {H : Type} (em : H) (nd : H → H → H)
/-- The root over trees in their order, and one more behind them. -/
def abL (L : List H) (h : H) : H := L.foldr nd h
/-- One more leaf: it and so many of the last trees become one. -/
def puL (t : Nat) (L : List H) (h : H) : List H := L.take (L.length - t) ++ [abL nd (L.drop (L.length - t)) h]
theorem puL_length {n : Nat} {L : List H} (h : H) (hl : L.length = pcN n) : (puL nd (tlN n) L h).length = pcN (n + 1) := by
  have := tl_le n
  rw [pc_succ, puL, List.length_append, List.length_take, List.length_singleton, hl]
  omega
theorem puL_zero (L : List H) (h : H) : puL nd 0 L h = L ++ [h] := by
  unfold puL abL
  rw [Nat.sub_zero, List.take_length, List.drop_length]
  rfl
theorem puL_more (t : Nat) (L : List H) (x h : H) : puL nd (t + 1) (L ++ [x]) h = puL nd t L (nd x h) := by
  unfold puL abL
  rw [List.length_append, List.length_singleton, Nat.add_sub_add_right, List.take_append_of_le_length (Nat.sub_le _ _), List.drop_append_of_le_length (Nat.sub_le _ _), List.foldr_append]
  rfl
/-- The root of trees in their order. -/
def rtL : List H → H
  | [] => em
  | [x] => x
  | x :: y :: L => nd x (rtL (y :: L))
theorem rt_snoc : ∀ (L : List H) (x : H), rtL em nd (L ++ [x]) = abL nd L x
  | [], x => rfl
  | [y], x => rfl
  | y :: z :: L, x => by
    show rtL em nd (y :: z :: (L ++ [x])) = _
    rw [rtL]
    have := rt_snoc (z :: L) x
    rw [List.cons_append] at this
    rw [this]
    rfl
/-- The roots of the full trees of leaves, of fewer than 2 ^ e. -/
def edT : Nat → List H → List H
  | 0, _ => []
  | e + 1, l => if 2 ^ e ≤ l.length then rootL em nd (l.take (2 ^ e)) :: edT e (l.drop (2 ^ e)) else edT e l
theorem ed_nil : ∀ e, edT em nd e ([] : List H) = []
  | 0 => rfl
  | e + 1 => by
    have : 0 < 2 ^ e := Nat.pow_pos (by decide)
    rw [edT, if_neg (by simp), ed_nil e]
theorem ed_low : ∀ (e : Nat) (A B : List H) (m : Nat), A.length = 2 * m → B.length ≤ 1 → 2 * m + B.length < 2 ^ (e + 1) → edT em nd (e + 1) (A ++ B) = edT em nd e (pairs nd A) ++ B
  | 0, A, B, m, hA, hB, hl => by
    obtain rfl : m = 0 := by omega
    obtain rfl : A = [] := List.length_eq_zero_iff.1 (by omega)
    match B, hB with
    | [], _ => rfl
    | [x], _ => rfl
    | x :: y :: B, hB => simp at hB
  | e + 1, A, B, m, hA, hB, hl => by
    have hpos : 0 < 2 ^ e := Nat.pow_pos (by decide)
    have hpl := pairs_length nd A
    rw [edT]
    by_cases h : 2 ^ (e + 1) ≤ (A ++ B).length
    · have hlen : (A ++ B).length = 2 * m + B.length := by rw [List.length_append, hA]
      rw [hlen] at h
      have hk : 2 ^ (e + 1) = 2 * 2 ^ e := by rw [Nat.pow_succ]; omega
      have hk2 : 2 ^ (e + 1 + 1) = 2 * (2 * 2 ^ e) := by rw [Nat.pow_succ, hk]; omega
      have hm : 2 ^ e ≤ m := by omega
      rw [hlen, if_pos h, hk, List.take_append_of_le_length (by omega), List.drop_append_of_le_length (by omega),
        ed_low e (A.drop (2 * 2 ^ e)) B (m - 2 ^ e) (by rw [List.length_drop]; omega) hB (by omega), edT, if_pos (by omega)]
      rw [root_level em nd _ _ (Nat.le_refl _), pairs_take nd _ _ (by omega), pairs_drop nd _ _ (by omega)]
      rfl
    · have hlen : (A ++ B).length = 2 * m + B.length := by rw [List.length_append, hA]
      rw [if_neg h]
      rw [hlen] at h
      have hk : 2 ^ (e + 1) = 2 * 2 ^ e := by rw [Nat.pow_succ]; omega
      rw [ed_low e A B m hA hB (by omega), edT, if_neg (by omega)]
theorem halves (l : List H) : ∃ A B m, l = A ++ B ∧ A.length = 2 * m ∧ B.length ≤ 1 ∧ l.length = 2 * m + B.length :=
  ⟨l.take (2 * (l.length / 2)), l.drop (2 * (l.length / 2)), l.length / 2, (List.take_append_drop _ _).symm, by rw [List.length_take]; omega, by rw [List.length_drop]; omega, by rw [List.length_drop]; omega⟩
theorem ed_length : ∀ (e : Nat) (l : List H), l.length < 2 ^ e → (edT em nd e l).length = pcN l.length
  | 0, l, h => by
    obtain rfl : l = [] := List.length_eq_zero_iff.1 (by simpa using h)
    exact pc_zero.symm
  | e + 1, l, h => by
    obtain ⟨A, B, m, rfl, hA, hB, hl⟩ := halves l
    have hp := pairs_length nd A
    have hk : 2 ^ (e + 1) = 2 * 2 ^ e := by rw [Nat.pow_succ]; omega
    rw [ed_low em nd e A B m hA hB (by omega), List.length_append, ed_length e _ (by omega), hl, hp, show (A.length + 1) / 2 = m by omega]
    rcases (show B.length = 0 ∨ B.length = 1 by omega) with hb | hb
    · rw [hb, Nat.add_zero, Nat.add_zero, pc_two]
    · rw [hb, pc_odd]
theorem pairs_snoc2 : ∀ (m : Nat) (A : List H) (x y : H), A.length = 2 * m → pairs nd (A ++ [x, y]) = pairs nd A ++ [nd x y]
  | 0, A, x, y, h => by
    obtain rfl : A = [] := List.length_eq_zero_iff.1 (by omega)
    rfl
  | m + 1, A, x, y, h => by
    match A, h with
    | a :: b :: A, h =>
      rw [List.cons_append, List.cons_append, pairs, pairs, pairs_snoc2 m A x y (by simp at h; omega)]
      rfl
    | [a], h => simp at h; omega
    | [], h => simp at h
/-- One leaf more. -/
theorem ed_more : ∀ (e : Nat) (l : List H) (h : H), l.length + 1 < 2 ^ e → edT em nd e (l ++ [h]) = puL nd (tlN l.length) (edT em nd e l) h
  | 0, l, h, hl => by simp at hl
  | e + 1, l, h, hl => by
    obtain ⟨A, B, m, rfl, hA, hB, hl2⟩ := halves l
    have hp := pairs_length nd A
    have hk : 2 ^ (e + 1) = 2 * 2 ^ e := by rw [Nat.pow_succ]; omega
    match B, hB with
    | [], _ =>
      rw [List.append_nil] at *
      have h2 := ed_low em nd e A [] m hA (by simp) (by simp; omega)
      rw [List.append_nil, List.append_nil] at h2
      rw [ed_low em nd e A [h] m hA (by simp) (by simp; omega), h2, hA, tl_two, puL_zero]
    | [x], _ =>
      have e1 : A ++ [x] ++ [h] = A ++ [x, h] ++ [] := by simp
      simp only [List.length_singleton] at hl2
      rw [e1, ed_low em nd e (A ++ [x, h]) [] (m + 1) (by rw [List.length_append, hA]; simp; omega) (by simp) (by simp; omega), List.append_nil, pairs_snoc2 nd m A x h hA,
        ed_more e _ _ (by omega), ed_low em nd e A [x] m hA (by simp) (by simp; omega), hl2, tl_odd, puL_more, hp, show (A.length + 1) / 2 = m by omega]
    | x :: y :: B, hB => simp at hB
theorem ed_some : ∀ (e : Nat) (l : List H), l ≠ [] → l.length < 2 ^ e → edT em nd e l ≠ [] := fun e l h1 h2 h3 => by
  have := ed_length em nd e l h2
  rw [h3] at this
  have := pc_pos (n := l.length) (fun e => h1 (List.length_eq_zero_iff.1 e))
  simp at *
  omega
/-- The root of leaves is that of their full trees. -/
theorem ed_root : ∀ (e : Nat) (l : List H), l.length < 2 ^ e → rtL em nd (edT em nd e l) = rootL em nd l
  | 0, l, h => by
    obtain rfl : l = [] := List.length_eq_zero_iff.1 (by simpa using h)
    rfl
  | e + 1, l, h => by
    have hk : 2 ^ (e + 1) = 2 * 2 ^ e := by rw [Nat.pow_succ]; omega
    have hpos : 0 < 2 ^ e := Nat.pow_pos (by decide)
    rw [edT]
    by_cases h2 : 2 ^ e ≤ l.length
    · rw [if_pos h2]
      by_cases h3 : l.length = 2 ^ e
      · rw [← h3, List.drop_length, List.take_length, ed_nil]
        rfl
      · have h4 : splitN l.length = 2 ^ e := split_is ⟨e, rfl⟩ (by omega) (by omega)
        have h5 := ed_root e (l.drop (2 ^ e)) (by rw [List.length_drop]; omega)
        have h6 := ed_some em nd e (l.drop (2 ^ e)) (fun q => by have := congrArg List.length q; rw [List.length_drop] at this; simp at this; omega) (by rw [List.length_drop]; omega)
        rw [root_node em nd (l := l) (by omega), h4, ← h5]
        match edT em nd e (l.drop (2 ^ e)), h6 with
        | y :: L, _ => rfl
        | [], h6 => exact absurd rfl h6
    · rw [if_neg h2]
      exact ed_root e l (by omega)
/-- Of as many leaves as a power of two says there is one tree. -/
theorem ed_pow (e p : Nat) (l : List H) (h : l.length = 2 ^ p) (hp : p < e) : edT em nd e l = [rootL em nd l] := by
  have hl : l.length < 2 ^ e := by rw [h]; exact Nat.pow_lt_pow_right (by decide) hp
  have h1 := ed_length em nd e l hl
  rw [h, pc_pow] at h1
  match hx : edT em nd e l, h1 with
  | [x], _ =>
    have := ed_root em nd e l hl
    rw [hx] at this
    rw [← this]
    rfl
end
end Go.Proofs.YtgnlfgamdohadaaDoor
