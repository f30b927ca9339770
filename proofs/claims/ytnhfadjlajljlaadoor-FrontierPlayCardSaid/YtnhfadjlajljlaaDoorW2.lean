/- How many 1 bits a number has, as it is counted in parallel; how many stand at its end (layer 10). -/
import Derived.WalkKit
import Derived.Lib.BitFns
import Derived.Lib.TrailingZeros
/- Roots, plainly (layer 9): Split, Root, and what follows of them; nothing of the program. -/
namespace Go.Proofs.YtnhfadjlajljlaaDoor
open Go.RowKit

/-- The greatest power of two below a number; 0 if there is none. -/
def splitN (n : Nat) : Nat := if n < 2 then 0 else 2 ^ Nat.log2 (n - 1)
theorem split_small {n : Nat} (h : n < 2) : splitN n = 0 := by unfold splitN; rw [if_pos h]
theorem split_ok {n : Nat} (h : 2 ≤ n) : 1 ≤ splitN n ∧ splitN n < n ∧ n ≤ 2 * splitN n ∧ ∃ e, splitN n = 2 ^ e := by
  unfold splitN
  rw [if_neg (by omega)]
  have h1 := Nat.log2_self_le (n := n - 1) (by omega)
  have h2 := Nat.lt_log2_self (n := n - 1)
  rw [Nat.pow_succ] at h2
  have h3 : 0 < 2 ^ Nat.log2 (n - 1) := Nat.pow_pos (by decide)
  exact ⟨by omega, by omega, by omega, _, rfl⟩
theorem pow_near {e f : Nat} (h1 : 2 ^ e < 2 * 2 ^ f) (h2 : 2 ^ f < 2 * 2 ^ e) : 2 ^ e = 2 ^ f := by
  have a1 : e < f + 1 := by
    refine Nat.lt_of_not_le fun h => ?_
    have := Nat.pow_le_pow_right (n := 2) (by decide) h
    rw [Nat.pow_succ] at this
    omega
  have a2 : f < e + 1 := by
    refine Nat.lt_of_not_le fun h => ?_
    have := Nat.pow_le_pow_right (n := 2) (by decide) h
    rw [Nat.pow_succ] at this
    omega
  rw [show e = f by omega]
/-- It is the one power of two that lies there. -/
theorem split_is {n k : Nat} (hp : ∃ e, k = 2 ^ e) (h1 : k < n) (h2 : n ≤ 2 * k) : splitN n = k := by
  obtain ⟨e, rfl⟩ := hp
  have hpos : 0 < 2 ^ e := Nat.pow_pos (by decide)
  obtain ⟨_, s2, s3, f, s4⟩ := split_ok (n := n) (by omega)
  rw [s4] at s2 s3 ⊢
  exact pow_near (by omega) (by omega)
theorem split_grown (p : Nat) : splitN (2 ^ p + 1) = 2 ^ p := by
  have : 0 < 2 ^ p := Nat.pow_pos (by decide)
  exact split_is ⟨p, rfl⟩ (by omega) (by omega)
section
variable {H : Type} (em : H) (nd : H → H → H)
/-- The root, in so many steps. -/
def rootF : Nat → List H → H
  | 0, _ => em
  | _ + 1, [] => em
  | _ + 1, [x] => x
  | n + 1, x :: y :: l => nd (rootF n ((x :: y :: l).take (splitN (l.length + 2)))) (rootF n ((x :: y :: l).drop (splitN (l.length + 2))))
def rootL (l : List H) : H := rootF em nd l.length l
theorem rootF_node {n : Nat} {l : List H} (h : 2 ≤ l.length) : rootF em nd (n + 1) l = nd (rootF em nd n (l.take (splitN l.length))) (rootF em nd n (l.drop (splitN l.length))) := by
  match l, h with
  | x :: y :: l, _ => rfl
theorem rootF_eq : ∀ {n m : Nat} {l : List H}, l.length ≤ n → l.length ≤ m → rootF em nd n l = rootF em nd m l
  | 0, 0, l, _, _ => rfl
  | 0, m + 1, l, h, _ => by
    obtain rfl : l = [] := List.length_eq_zero_iff.1 (by omega)
    rfl
  | n + 1, 0, l, _, h => by
    obtain rfl : l = [] := List.length_eq_zero_iff.1 (by omega)
    rfl
  | n + 1, m + 1, l, h1, h2 => by
    by_cases h : 2 ≤ l.length
    · obtain ⟨s1, s2, s3, _⟩ := split_ok h
      rw [rootF_node em nd h, rootF_node em nd h]
      congr 1
      · exact rootF_eq (by rw [List.length_take]; omega) (by rw [List.length_take]; omega)
      · exact rootF_eq (by rw [List.length_drop]; omega) (by rw [List.length_drop]; omega)
    · match l, h with
      | [], _ => rfl
      | [x], _ => rfl
      | x :: y :: l, h => exact absurd (by simp) h
theorem root_nil : rootL em nd [] = em := rfl
theorem root_one (x : H) : rootL em nd [x] = x := rfl
theorem root_node {l : List H} (h : 2 ≤ l.length) : rootL em nd l = nd (rootL em nd (l.take (splitN l.length))) (rootL em nd (l.drop (splitN l.length))) := by
  obtain ⟨s1, s2, s3, _⟩ := split_ok h
  obtain ⟨n, hn⟩ : ∃ n, l.length = n + 1 := ⟨l.length - 1, by omega⟩
  have e := rootF_node em nd (n := n) h
  unfold rootL
  rw [show rootF em nd l.length l = rootF em nd (n + 1) l by rw [hn], e]
  congr 1
  · exact rootF_eq em nd (by rw [List.length_take]; omega) (Nat.le_refl _)
  · exact rootF_eq em nd (by rw [List.length_drop]; omega) (Nat.le_refl _)
/-- Behind as many as a power of two says, one more. -/
theorem root_grown {l : List H} {p : Nat} (h : l.length = 2 ^ p) (x : H) : rootL em nd (l ++ [x]) = nd (rootL em nd l) x := by
  have hpos : 0 < 2 ^ p := Nat.pow_pos (by decide)
  have hl : (l ++ [x]).length = 2 ^ p + 1 := by simp [h]
  rw [root_node em nd (by omega), hl, split_grown, ← h, List.take_left, List.drop_left]
  rfl
/-- The nodes of each two. -/
def pairs : List H → List H
  | x :: y :: l => nd x y :: pairs l
  | l => l
theorem pairs_length : ∀ l : List H, (pairs nd l).length = (l.length + 1) / 2
  | [] => by simp [pairs]
  | [x] => by simp [pairs]
  | x :: y :: l => by
    rw [pairs, List.length_cons, pairs_length l, List.length_cons, List.length_cons]
    omega
theorem pairs_take : ∀ (k : Nat) (l : List H), 2 * k ≤ l.length → pairs nd (l.take (2 * k)) = (pairs nd l).take k
  | 0, l, _ => by simp [pairs]
  | k + 1, [], h => by simp at h
  | k + 1, [x], h => by simp at h; omega
  | k + 1, x :: y :: l, h => by
    rw [show 2 * (k + 1) = 2 * k + 1 + 1 by omega, List.take_succ_cons, List.take_succ_cons, pairs, pairs, List.take_succ_cons, pairs_take k l (by simp at h; omega)]
theorem pairs_drop : ∀ (k : Nat) (l : List H), 2 * k ≤ l.length → pairs nd (l.drop (2 * k)) = (pairs nd l).drop k
  | 0, l, _ => by simp
  | k + 1, [], h => by simp at h
  | k + 1, [x], h => by simp at h; omega
  | k + 1, x :: y :: l, h => by
    rw [show 2 * (k + 1) = 2 * k + 1 + 1 by omega, List.drop_succ_cons, List.drop_succ_cons, pairs, List.drop_succ_cons, pairs_drop k l (by simp at h; omega)]
/-- A level up the root is the same. -/
theorem root_level : ∀ (n : Nat) (l : List H), l.length ≤ n → rootL em nd l = rootL em nd (pairs nd l)
  | 0, l, h => by
    obtain rfl : l = [] := List.length_eq_zero_iff.1 (by omega)
    rfl
  | n + 1, l, h => by
    by_cases h3 : 3 ≤ l.length
    · obtain ⟨s1, s2, s3, e, s4⟩ := split_ok (n := l.length) (by omega)
      obtain ⟨f, rfl⟩ : ∃ f, e = f + 1 := by
        cases e with
        | zero => rw [s4] at s3; simp at s3; omega
        | succ f => exact ⟨f, rfl⟩
      have hk : splitN l.length = 2 * 2 ^ f := by rw [s4, Nat.pow_succ]; omega
      have hsp : splitN (pairs nd l).length = 2 ^ f := by
        rw [pairs_length]
        refine split_is ⟨f, rfl⟩ ?_ ?_ <;> omega
      have hf : 0 < 2 ^ f := Nat.pow_pos (by decide)
      rw [root_node em nd (by omega), root_node em nd (l := pairs nd l) (by rw [pairs_length]; omega), hsp, hk, ← pairs_take nd _ _ (by omega), ← pairs_drop nd _ _ (by omega)]
      rw [← root_level n (l.take (2 * 2 ^ f)) (by rw [List.length_take]; omega), ← root_level n (l.drop (2 * 2 ^ f)) (by rw [List.length_drop]; omega)]
    · match l, h3 with
      | [], _ => rfl
      | [x], _ => rfl
      | [x, y], _ =>
        rw [root_node em nd (by simp)]
        have e : splitN ([x, y] : List H).length = 1 := split_is ⟨0, rfl⟩ (by simp) (by simp)
        rw [e]
        rfl
      | x :: y :: z :: l, h3 => exact absurd (by simp) h3
end
end Go.Proofs.YtnhfadjlajljlaaDoor

/- A frontier plainly: the ones of a number, the roots of the full trees, one leaf more (layer 10). -/
namespace Go.Proofs.YtnhfadjlajljlaaDoor
open Go.RowKit

/-- How many 1 bits a number has. -/
def pcN (n : Nat) : Nat := if n = 0 then 0 else n % 2 + pcN (n / 2)
  termination_by n
/-- How many 1 bits stand at its end. -/
def tlN (n : Nat) : Nat := if n % 2 = 1 then tlN (n / 2) + 1 else 0
  termination_by n
theorem pc_zero : pcN 0 = 0 := by rw [pcN]; rfl
theorem pc_two (m : Nat) : pcN (2 * m) = pcN m := by
  by_cases h : m = 0
  · subst h; rfl
  · rw [pcN, if_neg (by omega), show 2 * m % 2 = 0 by omega, show 2 * m / 2 = m by omega, Nat.zero_add]
theorem pc_odd (m : Nat) : pcN (2 * m + 1) = pcN m + 1 := by
  rw [pcN, if_neg (by omega), show (2 * m + 1) % 2 = 1 by omega, show (2 * m + 1) / 2 = m by omega, Nat.add_comm]
theorem tl_two (m : Nat) : tlN (2 * m) = 0 := by rw [tlN, if_neg (by omega)]
theorem tl_odd (m : Nat) : tlN (2 * m + 1) = tlN m + 1 := by rw [tlN, if_pos (by omega), show (2 * m + 1) / 2 = m by omega]
theorem two_or (n : Nat) : (∃ m, n = 2 * m) ∨ ∃ m, n = 2 * m + 1 := by
  rcases Nat.mod_two_eq_zero_or_one n with h | h
  · exact .inl ⟨n / 2, by omega⟩
  · exact .inr ⟨n / 2, by omega⟩
theorem tl_le (n : Nat) : tlN n ≤ pcN n := by
  induction n using Nat.strongRecOn with
  | _ n ih =>
    rcases two_or n with ⟨m, rfl⟩ | ⟨m, rfl⟩
    · rw [tl_two]; omega
    · rw [tl_odd, pc_odd]
      have := ih m (by omega)
      omega
/-- One more. -/
theorem pc_succ (n : Nat) : pcN (n + 1) = pcN n - tlN n + 1 := by
  induction n using Nat.strongRecOn with
  | _ n ih =>
    rcases two_or n with ⟨m, rfl⟩ | ⟨m, rfl⟩
    · rw [tl_two, pc_odd, pc_two]; omega
    · rw [tl_odd, pc_odd, show 2 * m + 1 + 1 = 2 * (m + 1) by omega, pc_two, ih m (by omega)]
      have := tl_le m
      omega
theorem pc_le : ∀ (k n : Nat), n < 2 ^ k → pcN n ≤ k
  | 0, n, h => by
    obtain rfl : n = 0 := by simpa using h
    rw [pc_zero]; omega
  | k + 1, n, h => by
    rw [Nat.pow_succ] at h
    rcases two_or n with ⟨m, rfl⟩ | ⟨m, rfl⟩
    · rw [pc_two]; have := pc_le k m (by omega); omega
    · rw [pc_odd]; have := pc_le k m (by omega); omega
theorem pc_pos {n : Nat} (h : n ≠ 0) : 0 < pcN n := by
  induction n using Nat.strongRecOn with
  | _ n ih =>
    rcases two_or n with ⟨m, rfl⟩ | ⟨m, rfl⟩
    · rw [pc_two]; exact ih m (by omega) (by omega)
    · rw [pc_odd]; omega
theorem pc_pow (p : Nat) : pcN (2 ^ p) = 1 := by
  induction p with
  | zero => rw [show 2 ^ 0 = 2 * 0 + 1 by rfl, pc_odd, pc_zero]
  | succ p ih => rw [Nat.pow_succ, Nat.mul_comm, pc_two, ih]
theorem pc_full (p : Nat) : pcN (2 ^ p - 1) = p := by
  induction p with
  | zero => exact pc_zero
  | succ p ih =>
    have : 0 < 2 ^ p := Nat.pow_pos (by decide)
    rw [Nat.pow_succ, show 2 ^ p * 2 - 1 = 2 * (2 ^ p - 1) + 1 by omega, pc_odd, ih]
section
variable {H : Type} (em : H) (nd : H → H → H)
/-- The root over trees in their order, and one more behind them. -/
def abL (L : List H) (h : H) : H := L.foldr nd h
/-- One more leaf: it and so many of the last trees become one. -/
def puL (t : Nat) (L : List H) (h : H) : List H := L.take (L.length - t) ++ [abL nd (L.drop (L.length - t)) h]
theorem puL_length {n : Nat} {L : List H} (h : H) (hl : L.length = pcN n) : (puL nd (tlN n) L h).length = pcN (n + 1) := by
  have := tl_le n
  rw [pc_succ, puL, List.length_append, List.length_take, List.length_singleton, hl]
  omega
theorem puL_zero (L : List H) (h : H) : puL nd 0 L h = L ++ [h] := by
  unfold puL abL
  rw [Nat.sub_zero, List.take_length, List.drop_length]
  rfl
theorem puL_more (t : Nat) (L : List H) (x h : H) : puL nd (t + 1) (L ++ [x]) h = puL nd t L (nd x h) := by
  unfold puL abL
  rw [List.length_append, List.length_singleton, Nat.add_sub_add_right, List.take_append_of_le_length (Nat.sub_le _ _), List.drop_append_of_le_length (Nat.sub_le _ _), List.foldr_append]
  rfl
/-- The root of trees in their order. -/
def rtL : List H → H
  | [] => em
  | [x] => x
  | x :: y :: L => nd x (rtL (y :: L))
theorem rt_snoc : ∀ (L : List H) (x : H), rtL em nd (L ++ [x]) = abL nd L x
  | [], x => rfl
  | [y], x => rfl
  | y :: z :: L, x => by
    show rtL em nd (y :: z :: (L ++ [x])) = _
    rw [rtL]
    have := rt_snoc (z :: L) x
    rw [List.cons_append] at this
    rw [this]
    rfl
/-- The roots of the full trees of leaves, of fewer than 2 ^ e. -/
def edT : Nat → List H → List H
  | 0, _ => []
  | e + 1, l => if 2 ^ e ≤ l.length then rootL em nd (l.take (2 ^ e)) :: edT e (l.drop (2 ^ e)) else edT e l
theorem ed_nil : ∀ e, edT em nd e ([] : List H) = []
  | 0 => rfl
  | e + 1 => by
    have : 0 < 2 ^ e := Nat.pow_pos (by decide)
    rw [edT, if_neg (by simp), ed_nil e]
theorem ed_low : ∀ (e : Nat) (A B : List H) (m : Nat), A.length = 2 * m → B.length ≤ 1 → 2 * m + B.length < 2 ^ (e + 1) → edT em nd (e + 1) (A ++ B) = edT em nd e (pairs nd A) ++ B
  | 0, A, B, m, hA, hB, hl => by
    obtain rfl : m = 0 := by omega
    obtain rfl : A = [] := List.length_eq_zero_iff.1 (by omega)
    match B, hB with
    | [], _ => rfl
    | [x], _ => rfl
    | x :: y :: B, hB => simp at hB
  | e + 1, A, B, m, hA, hB, hl => by
    have hpos : 0 < 2 ^ e := Nat.pow_pos (by decide)
    have hpl := pairs_length nd A
    rw [edT]
    by_cases h : 2 ^ (e + 1) ≤ (A ++ B).length
    · have hlen : (A ++ B).length = 2 * m + B.length := by rw [List.length_append, hA]
      rw [hlen] at h
      have hk : 2 ^ (e + 1) = 2 * 2 ^ e := by rw [Nat.pow_succ]; omega
      have hk2 : 2 ^ (e + 1 + 1) = 2 * (2 * 2 ^ e) := by rw [Nat.pow_succ, hk]; omega
      have hm : 2 ^ e ≤ m := by omega
      rw [hlen, if_pos h, hk, List.take_append_of_le_length (by omega), List.drop_append_of_le_length (by omega),
        ed_low e (A.drop (2 * 2 ^ e)) B (m - 2 ^ e) (by rw [List.length_drop]; omega) hB (by omega), edT, if_pos (by omega)]
      rw [root_level em nd _ _ (Nat.le_refl _), pairs_take nd _ _ (by omega), pairs_drop nd _ _ (by omega)]
      rfl
    · have hlen : (A ++ B).length = 2 * m + B.length := by rw [List.length_append, hA]
      rw [if_neg h]
      rw [hlen] at h
      have hk : 2 ^ (e + 1) = 2 * 2 ^ e := by rw [Nat.pow_succ]; omega
      rw [ed_low e A B m hA hB (by omega), edT, if_neg (by omega)]
theorem halves (l : List H) : ∃ A B m, l = A ++ B ∧ A.length = 2 * m ∧ B.length ≤ 1 ∧ l.length = 2 * m + B.length :=
  ⟨l.take (2 * (l.length / 2)), l.drop (2 * (l.length / 2)), l.length / 2, (List.take_append_drop _ _).symm, by rw [List.length_take]; omega, by rw [List.length_drop]; omega, by rw [List.length_drop]; omega⟩
theorem ed_length : ∀ (e : Nat) (l : List H), l.length < 2 ^ e → (edT em nd e l).length = pcN l.length
  | 0, l, h => by
    obtain rfl : l = [] := List.length_eq_zero_iff.1 (by simpa using h)
    exact pc_zero.symm
  | e + 1, l, h => by
    obtain ⟨A, B, m, rfl, hA, hB, hl⟩ := halves l
    have hp := pairs_length nd A
    have hk : 2 ^ (e + 1) = 2 * 2 ^ e := by rw [Nat.pow_succ]; omega
    rw [ed_low em nd e A B m hA hB (by omega), List.length_append, ed_length e _ (by omega), hl, hp, show (A.length + 1) / 2 = m by omega]
    rcases (show B.length = 0 ∨ B.length = 1 by omega) with hb | hb
    · rw [hb, Nat.add_zero, Nat.add_zero, pc_two]
    · rw [hb, pc_odd]
theorem pairs_snoc2 : ∀ (m : Nat) (A : List H) (x y : H), A.length = 2 * m → pairs nd (A ++ [x, y]) = pairs nd A ++ [nd x y]
  | 0, A, x, y, h => by
    obtain rfl : A = [] := List.length_eq_zero_iff.1 (by omega)
    rfl
  | m + 1, A, x, y, h => by
    match A, h with
    | a :: b :: A, h =>
      rw [List.cons_append, List.cons_append, pairs, pairs, pairs_snoc2 m A x y (by simp at h; omega)]
      rfl
    | [a], h => simp at h; omega
    | [], h => simp at h
/-- One leaf more. -/
theorem ed_more : ∀ (e : Nat) (l : List H) (h : H), l.length + 1 < 2 ^ e → edT em nd e (l ++ [h]) = puL nd (tlN l.length) (edT em nd e l) h
  | 0, l, h, hl => by simp at hl
  | e + 1, l, h, hl => by
    obtain ⟨A, B, m, rfl, hA, hB, hl2⟩ := halves l
    have hp := pairs_length nd A
    have hk : 2 ^ (e + 1) = 2 * 2 ^ e := by rw [Nat.pow_succ]; omega
    match B, hB with
    | [], _ =>
      rw [List.append_nil] at *
      have h2 := ed_low em nd e A [] m hA (by simp) (by simp; omega)
      rw [List.append_nil, List.append_nil] at h2
      rw [ed_low em nd e A [h] m hA (by simp) (by simp; omega), h2, hA, tl_two, puL_zero]
    | [x], _ =>
      have e1 : A ++ [x] ++ [h] = A ++ [x, h] ++ [] := by simp
      simp only [List.length_singleton] at hl2
      rw [e1, ed_low em nd e (A ++ [x, h]) [] (m + 1) (by rw [List.length_append, hA]; simp; omega) (by simp) (by simp; omega), List.append_nil, pairs_snoc2 nd m A x h hA,
        ed_more e _ _ (by omega), ed_low em nd e A [x] m hA (by simp) (by simp; omega), hl2, tl_odd, puL_more, hp, show (A.length + 1) / 2 = m by omega]
    | x :: y :: B, hB => simp at hB
theorem ed_some : ∀ (e : Nat) (l : List H), l ≠ [] → l.length < 2 ^ e → edT em nd e l ≠ [] := fun e l h1 h2 h3 => by
  have := ed_length em nd e l h2
  rw [h3] at this
  have := pc_pos (n := l.length) (fun e => h1 (List.length_eq_zero_iff.1 e))
  simp at *
  omega
/-- The root of leaves is that of their full trees. -/
theorem ed_root : ∀ (e : Nat) (l : List H), l.length < 2 ^ e → rtL em nd (edT em nd e l) = rootL em nd l
  | 0, l, h => by
    obtain rfl : l = [] := List.length_eq_zero_iff.1 (by simpa using h)
    rfl
  | e + 1, l, h => by
    have hk : 2 ^ (e + 1) = 2 * 2 ^ e := by rw [Nat.pow_succ]; omega
    have hpos : 0 < 2 ^ e := Nat.pow_pos (by decide)
    rw [edT]
    by_cases h2 : 2 ^ e ≤ l.length
    · rw [if_pos h2]
      by_cases h3 : l.length = 2 ^ e
      · rw [← h3, List.drop_length, List.take_length, ed_nil]
        rfl
      · have h4 : splitN l.length = 2 ^ e := split_is ⟨e, rfl⟩ (by omega) (by omega)
        have h5 := ed_root e (l.drop (2 ^ e)) (by rw [List.length_drop]; omega)
        have h6 := ed_some em nd e (l.drop (2 ^ e)) (fun q => by have := congrArg List.length q; rw [List.length_drop] at this; simp at this; omega) (by rw [List.length_drop]; omega)
        rw [root_node em nd (l := l) (by omega), h4, ← h5]
        match edT em nd e (l.drop (2 ^ e)), h6 with
        | y :: L, _ => rfl
        | [], h6 => exact absurd rfl h6
    · rw [if_neg h2]
      exact ed_root e l (by omega)
/-- Of as many leaves as a power of two says there is one tree. -/
theorem ed_pow (e p : Nat) (l : List H) (h : l.length = 2 ^ p) (hp : p < e) : edT em nd e l = [rootL em nd l] := by
  have hl : l.length < 2 ^ e := by rw [h]; exact Nat.pow_lt_pow_right (by decide) hp
  have h1 := ed_length em nd e l hl
  rw [h, pc_pow] at h1
  match hx : edT em nd e l, h1 with
  | [x], _ =>
    have := ed_root em nd e l hl
    rw [hx] at this
    rw [← this]
    rfl
end
end Go.Proofs.YtnhfadjlajljlaaDoor

namespace Go.Proofs.YtnhfadjlajljlaaDoor

/-- The same in each of so many bytes. -/
def byM (f : Nat → Nat) : Nat → Nat → Nat
  | 0, _ => 0
  | k + 1, x => 256 * byM f k (x / 256) + f (x % 256)
def mask (c : Nat) : Nat → Nat
  | 0 => 0
  | k + 1 => 256 * mask c k + c
theorem and_split {a b c d : Nat} (hb : b < 256) (hd : d < 256) : (256 * a + b) &&& (256 * c + d) = 256 * (a &&& c) + (b &&& d) := by
  have h1 : ((256 * a + b) &&& (256 * c + d)) / 2 ^ 8 = a &&& c := by
    rw [Nat.and_div_two_pow]
    congr 1 <;> omega
  have h2 : ((256 * a + b) &&& (256 * c + d)) % 2 ^ 8 = b &&& d := by
    rw [Nat.and_mod_two_pow]
    congr 1 <;> omega
  omega
def a1 (r : Nat) : Nat := (r / 2 &&& 85) + (r &&& 85)
def a2 (r : Nat) : Nat := (r / 4 &&& 51) + (r &&& 51)
def a3 (r : Nat) : Nat := (r / 16 + r) &&& 15
theorem a1_top : ∀ (t : Fin 2) (r : Fin 256), (128 * t.val + r.val / 2) &&& 85 = r.val / 2 &&& 85 := by decide +kernel
theorem a2_top : ∀ (t : Fin 4) (r : Fin 256), (64 * t.val + r.val / 4) &&& 51 = r.val / 4 &&& 51 := by decide +kernel
theorem a3_top : ∀ (t : Fin 5) (r : Fin 256), (16 * t.val + r.val / 16 + a2 (a1 r.val)) &&& 15 = (r.val / 16 + a2 (a1 r.val)) &&& 15 := by decide +kernel
theorem a3_top' : ∀ (t : Fin 5) (r : Fin 256), (16 * t.val + a2 (a1 r.val) / 16 + a2 (a1 r.val)) &&& 15 = a3 (a2 (a1 r.val)) := by decide +kernel
theorem a1_lt : ∀ r : Fin 256, a1 r.val < 256 := by decide +kernel
theorem a2_lt : ∀ r : Fin 256, a2 (a1 r.val) ≤ 68 ∧ a2 (a1 r.val) % 16 ≤ 4 := by decide +kernel
theorem a3_pc : ∀ r : Fin 256, a3 (a2 (a1 r.val)) = Lib.onesCount r.val ∧ Lib.onesCount r.val ≤ 8 := by decide +kernel
theorem byM_div (f : Nat → Nat) (k x : Nat) (h : f (x % 256) < 256) : byM f (k + 1) x / 256 = byM f k (x / 256) := by rw [byM]; omega
theorem byM_mod (f : Nat → Nat) (k x : Nat) (h : f (x % 256) < 256) : byM f (k + 1) x % 256 = f (x % 256) := by rw [byM]; omega
theorem swar1 : ∀ k x, (x / 2 &&& mask 85 k) + (x &&& mask 85 k) = byM a1 k x
  | 0, x => by simp [mask, byM]
  | k + 1, x => by
    have h1 := swar1 k (x / 256)
    have e1 : x / 2 = 256 * (x / 256 / 2) + (128 * (x / 256 % 2) + x % 256 / 2) := by omega
    have e2 : x = 256 * (x / 256) + x % 256 := by omega
    have h2 : (128 * (x / 256 % 2) + x % 256 / 2) &&& 85 = x % 256 / 2 &&& 85 := a1_top ⟨x / 256 % 2, by omega⟩ ⟨x % 256, by omega⟩
    have h3 : x &&& mask 85 (k + 1) = 256 * (x / 256 &&& mask 85 k) + (x % 256 &&& 85) := by
      conv => lhs; rw [e2, mask]
      exact and_split (by omega) (by omega)
    have h4 : x / 2 &&& mask 85 (k + 1) = 256 * (x / 256 / 2 &&& mask 85 k) + (x % 256 / 2 &&& 85) := by
      rw [e1, mask, and_split (by omega) (by omega), h2]
    rw [h3, h4, byM, ← h1, a1]
    omega
theorem swar2 : ∀ k x, (byM a1 k x / 4 &&& mask 51 k) + (byM a1 k x &&& mask 51 k) = byM (fun r => a2 (a1 r)) k x
  | 0, x => by simp [mask, byM]
  | k + 1, x => by
    have h1 := swar2 k (x / 256)
    have hs : a1 (x % 256) < 256 := a1_lt ⟨x % 256, by omega⟩
    have h2 : (64 * (byM a1 k (x / 256) % 4) + a1 (x % 256) / 4) &&& 51 = a1 (x % 256) / 4 &&& 51 := a2_top ⟨byM a1 k (x / 256) % 4, by omega⟩ ⟨a1 (x % 256), hs⟩
    rw [byM, byM, ← h1]
    generalize byM a1 k (x / 256) = y at *
    show _ = 256 * _ + ((a1 (x % 256) / 4 &&& 51) + (a1 (x % 256) &&& 51))
    generalize a1 (x % 256) = s at *
    rw [show (256 * y + s) / 4 = 256 * (y / 4) + (64 * (y % 4) + s / 4) by omega, mask, and_split (by omega) (by omega), and_split (by omega) (by omega), h2]
    omega
theorem swar3 : ∀ k x, (byM (fun r => a2 (a1 r)) k x / 16 + byM (fun r => a2 (a1 r)) k x) &&& mask 15 k = byM (fun r => a3 (a2 (a1 r))) k x
  | 0, x => by simp [mask, byM]
  | k + 1, x => by
    have h1 := swar3 k (x / 256)
    obtain ⟨hs, hs2⟩ := a2_lt ⟨x % 256, by omega⟩
    have hy : byM (fun r => a2 (a1 r)) k (x / 256) % 16 ≤ 4 := by
      cases k with
      | zero => simp [byM]
      | succ k =>
        obtain ⟨ht, ht2⟩ := a2_lt ⟨x / 256 % 256, by omega⟩
        rw [byM]
        simp only at ht ht2 ⊢
        omega
    have h2 : (16 * (byM (fun r => a2 (a1 r)) k (x / 256) % 16) + a2 (a1 (x % 256)) / 16 + a2 (a1 (x % 256))) &&& 15 = a3 (a2 (a1 (x % 256))) := a3_top' ⟨byM (fun r => a2 (a1 r)) k (x / 256) % 16, by omega⟩ ⟨x % 256, by omega⟩
    rw [byM, byM, ← h1]
    simp only at hs hs2 ⊢
    generalize byM (fun r => a2 (a1 r)) k (x / 256) = y at *
    rw [← h2]
    generalize a2 (a1 (x % 256)) = s at *
    rw [show (256 * y + s) / 16 + (256 * y + s) = 256 * (y / 16 + y) + (16 * (y % 16) + s / 16 + s) by omega, mask, and_split (by omega) (by omega)]
theorem pc_pop : ∀ (f x : Nat), x < 2 ^ f → Lib.popAux f x = pcN x
  | 0, x, h => by
    obtain rfl : x = 0 := by simpa using h
    exact pc_zero.symm
  | f + 1, x, h => by
    rw [Nat.pow_succ] at h
    rw [Lib.popAux, pc_pop f (x / 2) (by omega)]
    by_cases h0 : x = 0
    · subst h0; rw [pc_zero]; 
    · conv => rhs; rw [pcN, if_neg h0]
theorem pc_split : ∀ (k q r : Nat), r < 2 ^ k → pcN (2 ^ k * q + r) = pcN q + pcN r
  | 0, q, r, h => by
    obtain rfl : r = 0 := by simpa using h
    rw [pc_zero]; simp
  | k + 1, q, r, h => by
    rw [Nat.pow_succ] at h
    rcases two_or r with ⟨m, rfl⟩ | ⟨m, rfl⟩
    · rw [show 2 ^ (k + 1) * q + 2 * m = 2 * (2 ^ k * q + m) by rw [Nat.pow_succ, Nat.mul_add, Nat.mul_comm (2 ^ k) 2, Nat.mul_assoc], pc_two, pc_two, pc_split k q m (by omega)]
    · rw [show 2 ^ (k + 1) * q + (2 * m + 1) = 2 * (2 ^ k * q + m) + 1 by rw [Nat.pow_succ, Nat.mul_add, Nat.mul_comm (2 ^ k) 2, Nat.mul_assoc]; omega, pc_odd, pc_odd, pc_split k q m (by omega)]
      omega
def a4 (r : Nat) : Nat := a3 (a2 (a1 r))
theorem a4_is (r : Nat) (h : r < 256) : a4 r = pcN r ∧ a4 r ≤ 8 := by
  obtain ⟨h1, h2⟩ := a3_pc ⟨r, h⟩
  simp only at h1 h2
  have h3 : a4 r = Lib.onesCount r := h1
  have h4 : Lib.onesCount r = pcN r := pc_pop 64 r (by omega)
  exact ⟨h3.trans h4, by omega⟩
theorem pc_byte (x : Nat) : pcN x = pcN (x / 256) + a4 (x % 256) := by
  rw [(a4_is (x % 256) (by omega)).1]
  have := pc_split 8 (x / 256) (x % 256) (by omega)
  rw [← this]
  congr 1
  omega
theorem fold8 (z x : Nat) (hx : x < 18446744073709551616) (hz : z = byM a4 8 x) : (z + z / 256 + (z + z / 256) / 65536 + (z + z / 256 + (z + z / 256) / 65536) / 4294967296) % 128 = pcN x ∧ z < 1157442765409226769 := by
  have p0 := pc_byte x
  have p1 := pc_byte (x / 256)
  have p2 := pc_byte (x / 256 / 256)
  have p3 := pc_byte (x / 256 / 256 / 256)
  have p4 := pc_byte (x / 256 / 256 / 256 / 256)
  have p5 := pc_byte (x / 256 / 256 / 256 / 256 / 256)
  have p6 := pc_byte (x / 256 / 256 / 256 / 256 / 256 / 256)
  have p7 := pc_byte (x / 256 / 256 / 256 / 256 / 256 / 256 / 256)
  have p8 : x / 256 / 256 / 256 / 256 / 256 / 256 / 256 / 256 = 0 := by omega
  rw [p8, pc_zero] at p7
  have q0 := (a4_is (x % 256) (by omega)).2
  have q1 := (a4_is (x / 256 % 256) (by omega)).2
  have q2 := (a4_is (x / 256 / 256 % 256) (by omega)).2
  have q3 := (a4_is (x / 256 / 256 / 256 % 256) (by omega)).2
  have q4 := (a4_is (x / 256 / 256 / 256 / 256 % 256) (by omega)).2
  have q5 := (a4_is (x / 256 / 256 / 256 / 256 / 256 % 256) (by omega)).2
  have q6 := (a4_is (x / 256 / 256 / 256 / 256 / 256 / 256 % 256) (by omega)).2
  have q7 := (a4_is (x / 256 / 256 / 256 / 256 / 256 / 256 / 256 % 256) (by omega)).2
  rw [byM, byM, byM, byM, byM, byM, byM, byM, byM] at hz
  generalize a4 (x % 256) = w0 at *
  generalize a4 (x / 256 % 256) = w1 at *
  generalize a4 (x / 256 / 256 % 256) = w2 at *
  generalize a4 (x / 256 / 256 / 256 % 256) = w3 at *
  generalize a4 (x / 256 / 256 / 256 / 256 % 256) = w4 at *
  generalize a4 (x / 256 / 256 / 256 / 256 / 256 % 256) = w5 at *
  generalize a4 (x / 256 / 256 / 256 / 256 / 256 / 256 % 256) = w6 at *
  generalize a4 (x / 256 / 256 / 256 / 256 / 256 / 256 / 256 % 256) = w7 at *
  have hp : pcN x = w0 + w1 + w2 + w3 + w4 + w5 + w6 + w7 := by omega
  rw [hp]
  clear p0 p1 p2 p3 p4 p5 p6 p7 p8 hp hx
  have hz' : z = w0 + 256 * w1 + 65536 * w2 + 16777216 * w3 + 4294967296 * w4 + 1099511627776 * w5 + 281474976710656 * w6 + 72057594037927936 * w7 := by rw [hz]; omega
  have d1 : z / 256 = w1 + 256 * w2 + 65536 * w3 + 16777216 * w4 + 4294967296 * w5 + 1099511627776 * w6 + 281474976710656 * w7 := by omega
  have e1 : z + z / 256 = (w0 + w1) + 256 * (w1 + w2) + 65536 * (w2 + w3) + 16777216 * (w3 + w4) + 4294967296 * (w4 + w5) + 1099511627776 * (w5 + w6) + 281474976710656 * (w6 + w7) + 72057594037927936 * w7 := by omega
  have hlt : z < 1157442765409226769 := by omega
  generalize z + z / 256 = y at *
  clear d1 hz
  have d2 : y / 65536 = (w2 + w3) + 256 * (w3 + w4) + 65536 * (w4 + w5) + 16777216 * (w5 + w6) + 4294967296 * (w6 + w7) + 1099511627776 * w7 := by clear hz' hlt; omega
  have e2 : y + y / 65536 = (w0 + w1 + w2 + w3) + 256 * (w1 + w2 + w3 + w4) + 65536 * (w2 + w3 + w4 + w5) + 16777216 * (w3 + w4 + w5 + w6) + 4294967296 * (w4 + w5 + w6 + w7) + 1099511627776 * (w5 + w6 + w7) + 281474976710656 * (w6 + w7) + 72057594037927936 * w7 := by clear hz' hlt; omega
  generalize y + y / 65536 = v at *
  clear d2 e1 hz'
  have d3 : v / 4294967296 = (w4 + w5 + w6 + w7) + 256 * (w5 + w6 + w7) + 65536 * (w6 + w7) + 16777216 * w7 := by clear hlt; omega
  exact ⟨by clear hlt; omega, hlt⟩
/-- How many 0 bits stand at the end of what a number lacks. -/
theorem ctz_not : ∀ (k n : Nat), n + 1 < 2 ^ k → Lib.ctzFrom k (2 ^ k - 1 - n) = tlN n
  | 0, n, h => by simp at h
  | k + 1, n, h => by
    rw [Nat.pow_succ] at h
    rw [Lib.ctzFrom, Nat.pow_succ]
    rcases two_or n with ⟨m, rfl⟩ | ⟨m, rfl⟩
    · rw [if_pos (by omega), tl_two]
    · rw [if_neg (by omega), tl_odd, show (2 ^ k * 2 - 1 - (2 * m + 1)) / 2 = 2 ^ k - 1 - m by omega, ctz_not k m (by omega), Nat.add_comm]
end Go.Proofs.YtnhfadjlajljlaaDoor
