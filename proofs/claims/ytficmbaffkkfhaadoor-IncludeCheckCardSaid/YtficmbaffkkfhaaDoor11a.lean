/- Proofs of a leaf, plainly (layer 11): the parts beside it, its proof, what a proof leads to; nothing of the program. -/
import Derived.Test.YtficmbaffkkfhaaDoorW8
namespace Go.Proofs.YtficmbaffkkfhaaDoor
open Go.RowKit

/-- The parts beside the i-th of the leaves from s up to e, in so many steps: what is parted off last stands ahead. -/
def besF : Nat → Nat → Nat → Nat → List (Nat × Nat)
  | 0, _, _, _ => []
  | f + 1, i, s, e => if e - s < 2 then [] else if i < s + splitN (e - s) then besF f i s (s + splitN (e - s)) ++ [(s + splitN (e - s), e)] else besF f i (s + splitN (e - s)) e ++ [(s, s + splitN (e - s))]
def bes (i s e : Nat) : List (Nat × Nat) := besF (e - s) i s e
theorem besF_eq : ∀ {f g i s e : Nat}, e - s ≤ f → e - s ≤ g → besF f i s e = besF g i s e
  | 0, 0, _, _, _, _, _ => rfl
  | 0, g + 1, i, s, e, h, _ => by rw [besF, besF, if_pos (by omega)]
  | f + 1, 0, i, s, e, _, h => by rw [besF, besF, if_pos (by omega)]
  | f + 1, g + 1, i, s, e, h1, h2 => by
    rw [besF, besF]
    by_cases h : e - s < 2
    · rw [if_pos h, if_pos h]
    · obtain ⟨s1, s2, -⟩ := split_ok (n := e - s) (by omega)
      rw [if_neg h, if_neg h, besF_eq (f := f) (g := g) (i := i) (s := s) (e := s + splitN (e - s)) (by omega) (by omega), besF_eq (f := f) (g := g) (i := i) (s := s + splitN (e - s)) (e := e) (by omega) (by omega)]
theorem bes_one {i s e : Nat} (h : e - s < 2) : bes i s e = [] := by
  unfold bes
  cases h2 : e - s with
  | zero => rfl
  | succ n => rw [besF, if_pos h]
theorem bes_left {i s e : Nat} (h : 2 ≤ e - s) (hi : i < s + splitN (e - s)) : bes i s e = bes i s (s + splitN (e - s)) ++ [(s + splitN (e - s), e)] := by
  obtain ⟨s1, s2, -⟩ := split_ok h
  obtain ⟨n, hn⟩ : ∃ n, e - s = n + 1 := ⟨e - s - 1, by omega⟩
  have h1 : bes i s e = besF (n + 1) i s e := by rw [bes, hn]
  rw [h1, besF, if_neg (by omega), if_pos hi, bes, besF_eq (f := n) (g := s + splitN (e - s) - s) (by omega) (Nat.le_refl _)]
theorem bes_right {i s e : Nat} (h : 2 ≤ e - s) (hi : ¬ i < s + splitN (e - s)) : bes i s e = bes i (s + splitN (e - s)) e ++ [(s, s + splitN (e - s))] := by
  obtain ⟨s1, s2, -⟩ := split_ok h
  obtain ⟨n, hn⟩ : ∃ n, e - s = n + 1 := ⟨e - s - 1, by omega⟩
  have h1 : bes i s e = besF (n + 1) i s e := by rw [bes, hn]
  rw [h1, besF, if_neg (by omega), if_neg hi, bes, besF_eq (f := n) (g := e - (s + splitN (e - s))) (by omega) (Nat.le_refl _)]
/-- There are no more than there are halvings. -/
theorem bes_short : ∀ (d i s e : Nat), e - s ≤ 2 ^ d → (bes i s e).length ≤ d
  | 0, i, s, e, h => by rw [bes_one (by simpa using Nat.lt_of_le_of_lt h (by decide))]; exact Nat.le_refl _
  | d + 1, i, s, e, h => by
    by_cases h2 : e - s < 2
    · rw [bes_one h2]; exact Nat.zero_le _
    · obtain ⟨s1, s2, s3, p, s4⟩ := split_ok (n := e - s) (by omega)
      have hp : p ≤ d := by
        refine Nat.le_of_not_lt fun hc => ?_
        have := Nat.pow_le_pow_right (n := 2) (by decide) hc
        rw [Nat.succ_eq_add_one] at this
        omega
      have hk : splitN (e - s) ≤ 2 ^ d := by rw [s4]; exact Nat.pow_le_pow_right (by decide) hp
      by_cases hi : i < s + splitN (e - s)
      · rw [bes_left (by omega) hi, List.length_append]
        have := bes_short d i s (s + splitN (e - s)) (by omega)
        simp only [List.length_singleton]
        omega
      · rw [bes_right (by omega) hi, List.length_append]
        have := bes_short d i (s + splitN (e - s)) e (by omega)
        simp only [List.length_singleton]
        omega
/-- The proof of the i-th of some leaves. -/
def prF : Nat → List (List UInt8) → Nat → List (List UInt8)
  | 0, _, _ => []
  | f + 1, L, i => if L.length < 2 then [] else if i < splitN L.length then prF f (L.take (splitN L.length)) i ++ [rootH (L.drop (splitN L.length))] else prF f (L.drop (splitN L.length)) (i - splitN L.length) ++ [rootH (L.take (splitN L.length))]
def prH (L : List (List UInt8)) (i : Nat) : List (List UInt8) := prF L.length L i
theorem prF_eq : ∀ {f g i : Nat} {L : List (List UInt8)}, L.length ≤ f → L.length ≤ g → prF f L i = prF g L i
  | 0, 0, _, _, _, _ => rfl
  | 0, g + 1, i, L, h, _ => by rw [prF, prF, if_pos (by omega)]
  | f + 1, 0, i, L, _, h => by rw [prF, prF, if_pos (by omega)]
  | f + 1, g + 1, i, L, h1, h2 => by
    rw [prF, prF]
    by_cases h : L.length < 2
    · rw [if_pos h, if_pos h]
    · obtain ⟨s1, s2, -⟩ := split_ok (n := L.length) (by omega)
      rw [if_neg h, if_neg h, prF_eq (f := f) (g := g) (L := L.take (splitN L.length)) (by rw [List.length_take]; omega) (by rw [List.length_take]; omega), prF_eq (f := f) (g := g) (L := L.drop (splitN L.length)) (by rw [List.length_drop]; omega) (by rw [List.length_drop]; omega)]
theorem pr_one {L : List (List UInt8)} {i : Nat} (h : L.length < 2) : prH L i = [] := by
  unfold prH
  cases h2 : L.length with
  | zero => rfl
  | succ n => rw [prF, if_pos h]
theorem pr_left {L : List (List UInt8)} {i : Nat} (h : 2 ≤ L.length) (hi : i < splitN L.length) : prH L i = prH (L.take (splitN L.length)) i ++ [rootH (L.drop (splitN L.length))] := by
  obtain ⟨s1, s2, -⟩ := split_ok h
  obtain ⟨n, hn⟩ : ∃ n, L.length = n + 1 := ⟨L.length - 1, by omega⟩
  have h1 : prH L i = prF (n + 1) L i := by rw [prH, hn]
  rw [h1, prF, if_neg (by omega), if_pos hi, prH, prF_eq (f := n) (g := (L.take (splitN L.length)).length) (by rw [List.length_take]; omega) (Nat.le_refl _)]
theorem pr_right {L : List (List UInt8)} {i : Nat} (h : 2 ≤ L.length) (hi : ¬ i < splitN L.length) : prH L i = prH (L.drop (splitN L.length)) (i - splitN L.length) ++ [rootH (L.take (splitN L.length))] := by
  obtain ⟨s1, s2, -⟩ := split_ok h
  obtain ⟨n, hn⟩ : ∃ n, L.length = n + 1 := ⟨L.length - 1, by omega⟩
  have h1 : prH L i = prF (n + 1) L i := by rw [prH, hn]
  rw [h1, prF, if_neg (by omega), if_neg hi, prH, prF_eq (f := n) (g := (L.drop (splitN L.length)).length) (by rw [List.length_drop]; omega) (Nat.le_refl _)]
/-- The root of a part. -/
def ptH (L : List (List UInt8)) (p : Nat × Nat) : List UInt8 := rootH ((L.drop p.1).take (p.2 - p.1))
theorem part_take (L : List (List UInt8)) {s k e : Nat} (h : s + k ≤ e) : ((L.drop s).take (e - s)).take k = (L.drop s).take (s + k - s) := by
  rw [List.take_take, show min k (e - s) = s + k - s by omega]
theorem part_drop (L : List (List UInt8)) {s k e : Nat} : ((L.drop s).take (e - s)).drop k = (L.drop (s + k)).take (e - (s + k)) := by
  rw [List.drop_take, List.drop_drop, show e - s - k = e - (s + k) by omega]
/-- The parts' roots are the proof. -/
theorem bes_pr : ∀ (f i s e : Nat) (L : List (List UInt8)), e - s ≤ f → s ≤ e → e ≤ L.length → s ≤ i → (bes i s e).map (ptH L) = prH ((L.drop s).take (e - s)) (i - s)
  | f, i, s, e, L, hf, hs, he, hi => by
    have hl : ((L.drop s).take (e - s)).length = e - s := by rw [List.length_take, List.length_drop]; omega
    by_cases h : e - s < 2
    · rw [bes_one h, pr_one (by omega)]; rfl
    · match f, hf with
      | 0, hf => exact absurd hf (by omega)
      | f + 1, hf =>
        obtain ⟨s1, s2, -⟩ := split_ok (n := e - s) (by omega)
        by_cases hk : i < s + splitN (e - s)
        · rw [bes_left (by omega) hk, pr_left (by omega) (by rw [hl]; omega), hl, List.map_append, bes_pr f i s (s + splitN (e - s)) L (by omega) (by omega) (by omega) hi, part_take L (by omega), part_drop L]
          rfl
        · rw [bes_right (by omega) hk, pr_right (by omega) (by rw [hl]; omega), hl, List.map_append, bes_pr f i (s + splitN (e - s)) e L (by omega) (by omega) (by omega) (by omega), part_take L (by omega), part_drop L, show i - s - splitN (e - s) = i - (s + splitN (e - s)) by omega]
          rfl
theorem bes_all (L : List (List UInt8)) {i : Nat} : (bes i 0 L.length).map (ptH L) = prH L i := by
  have := bes_pr L.length i 0 L.length L (by omega) (Nat.zero_le _) (Nat.le_refl _) (Nat.zero_le _)
  rwa [List.drop_zero, Nat.sub_zero, List.take_of_length_le (Nat.le_refl _), Nat.sub_zero] at this
/-- One step from the leaf up: a part's root, and on which side it stands. -/
def stP (i : Nat) (h : List UInt8) (x : (Nat × Nat) × List UInt8) : List UInt8 := if i < x.1.1 then nodeL h x.2 else nodeL x.2 h
/-- What a proof leads to. -/
def ldF : Nat → List UInt8 → Nat → Nat → List (List UInt8) → Option (List UInt8)
  | 0, _, _, _, _ => none
  | f + 1, x, i, n, P => if n < 2 then (if P = [] then some x else none) else match P.getLast? with
    | none => none
    | some h => if i < splitN n then (ldF f x i (splitN n) P.dropLast).map (fun y => nodeL y h) else (ldF f x (i - splitN n) (n - splitN n) P.dropLast).map (fun y => nodeL h y)
def ldH (x : List UInt8) (i n : Nat) (P : List (List UInt8)) : Option (List UInt8) := if P.length = (bes i 0 n).length then some (((bes i 0 n).zip P).foldl (stP i) x) else none
theorem zip_snoc {α β : Type} (l : List α) (a : α) (m : List β) (b : β) (h : l.length = m.length) : (l ++ [a]).zip (m ++ [b]) = l.zip m ++ [(a, b)] := List.zip_append h
/-- By parts or by halves: the same. -/
theorem ldF_bes : ∀ (f : Nat) (x : List UInt8) (i s e : Nat) (P : List (List UInt8)), e - s ≤ f → s ≤ i → i < e → ldF f x (i - s) (e - s) P = if P.length = (bes i s e).length then some (((bes i s e).zip P).foldl (stP i) x) else none
  | 0, x, i, s, e, P, h, h1, h2 => absurd h (by omega)
  | f + 1, x, i, s, e, P, h, h1, h2 => by
    rw [ldF]
    by_cases hs : e - s < 2
    · rw [if_pos hs, bes_one hs]
      by_cases hP : P = []
      · subst hP; rfl
      · rw [if_neg hP, if_neg (by rw [List.length_nil]; exact fun hc => hP (List.length_eq_zero_iff.1 hc))]
    · rw [if_neg hs]
      obtain ⟨s1, s2, -⟩ := split_ok (n := e - s) (by omega)
      rcases List.eq_nil_or_concat P with rfl | ⟨Q, q, rfl⟩
      · have : (bes i s e).length ≠ 0 := by
          by_cases hk : i < s + splitN (e - s)
          · rw [bes_left (by omega) hk, List.length_append]; simp
          · rw [bes_right (by omega) hk, List.length_append]; simp
        rw [if_neg (by rw [List.length_nil]; exact fun hc => this hc.symm)]
        rfl
      · rw [List.concat_eq_append, List.getLast?_append, List.getLast?_singleton, List.dropLast_concat]
        simp only [Option.some_or]
        by_cases hk : i < s + splitN (e - s)
        · have := ldF_bes f x i s (s + splitN (e - s)) Q (by omega) h1 hk
          rw [show s + splitN (e - s) - s = splitN (e - s) by omega] at this
          rw [if_pos (by omega), this, bes_left (by omega) hk]
          by_cases hl : Q.length = (bes i s (s + splitN (e - s))).length
          · rw [if_pos hl, if_pos (by rw [List.length_append, List.length_append, hl]; rfl), zip_snoc _ _ _ _ hl.symm, List.foldl_append]
            simp only [Option.map_some, List.foldl_cons, List.foldl_nil]
            rw [stP, if_pos (show i < s + splitN (e - s) from hk)]
          · rw [if_neg hl, if_neg (by rw [List.length_append, List.length_append, List.length_singleton, List.length_singleton]; omega)]
            rfl
        · have := ldF_bes f x i (s + splitN (e - s)) e Q (by omega) (by omega) h2
          rw [show i - (s + splitN (e - s)) = i - s - splitN (e - s) by omega, show e - (s + splitN (e - s)) = e - s - splitN (e - s) by omega] at this
          rw [if_neg (by omega), this, bes_right (by omega) hk]
          by_cases hl : Q.length = (bes i (s + splitN (e - s)) e).length
          · rw [if_pos hl, if_pos (by rw [List.length_append, List.length_append, hl]; rfl), zip_snoc _ _ _ _ hl.symm, List.foldl_append]
            simp only [Option.map_some, List.foldl_cons, List.foldl_nil]
            rw [stP, if_neg (show ¬ i < s from by omega)]
          · rw [if_neg hl, if_neg (by rw [List.length_append, List.length_append, List.length_singleton, List.length_singleton]; omega)]
            rfl
theorem ld_eq {f i n : Nat} (x : List UInt8) (P : List (List UInt8)) (h : n ≤ f) (hi : i < n) : ldF f x i n P = ldH x i n P := by
  have := ldF_bes f x i 0 n P (by omega) (Nat.zero_le _) hi
  rwa [Nat.sub_zero, Nat.sub_zero] at this
/-- What is proved leads to the root. -/
theorem pr_leads : ∀ (f i : Nat) (L : List (List UInt8)) (x : List UInt8), L.length ≤ f → L[i]? = some x → ldF f x i L.length (prH L i) = some (rootH L)
  | 0, i, L, x, h, hx => by
    have := (List.getElem?_eq_some_iff.1 hx).1
    omega
  | f + 1, i, L, x, h, hx => by
    have hi := (List.getElem?_eq_some_iff.1 hx).1
    rw [ldF]
    by_cases h2 : L.length < 2
    · rw [if_pos h2, pr_one h2, if_pos rfl]
      match L, h2, hi, hx with
      | [y], _, hi, hx =>
        obtain rfl : i = 0 := by simpa using hi
        obtain rfl : y = x := by simpa using hx
        rfl
    · obtain ⟨s1, s2, -⟩ := split_ok (n := L.length) (by omega)
      rw [if_neg h2]
      have hrt : rootH L = nodeL (rootH (L.take (splitN L.length))) (rootH (L.drop (splitN L.length))) := root_node _ _ (by omega)
      by_cases hk : i < splitN L.length
      · have := pr_leads f i (L.take (splitN L.length)) x (by rw [List.length_take]; omega) (by rw [List.getElem?_take, if_pos hk]; exact hx)
        rw [List.length_take, Nat.min_eq_left (by omega)] at this
        rw [pr_left (by omega) hk, List.getLast?_append, List.getLast?_singleton, List.dropLast_concat]
        simp only [Option.some_or]
        rw [if_pos hk, this, hrt]
        rfl
      · have := pr_leads f (i - splitN L.length) (L.drop (splitN L.length)) x (by rw [List.length_drop]; omega) (by rw [List.getElem?_drop, show splitN L.length + (i - splitN L.length) = i by omega]; exact hx)
        rw [List.length_drop] at this
        rw [pr_right (by omega) hk, List.getLast?_append, List.getLast?_singleton, List.dropLast_concat]
        simp only [Option.some_or]
        rw [if_neg hk, this, hrt]
        rfl
theorem pr_checks {i : Nat} {L : List (List UInt8)} {x : List UInt8} (hx : L[i]? = some x) : ldH x i L.length (prH L i) = some (rootH L) := by
  rw [← ld_eq (f := L.length) x _ (Nat.le_refl _) (List.getElem?_eq_some_iff.1 hx).1]
  exact pr_leads _ _ _ _ (Nat.le_refl _) hx
end Go.Proofs.YtficmbaffkkfhaaDoor
