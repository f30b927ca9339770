/- What the program's Give makes, plainly: the runs ahead, one that grows by what it touches, the runs behind (layer 7). -/
import Derived.Test.YtbnfhhjgalphgaaZb
namespace Go.Proofs.Ytbnfhhjgalphgaa
open Go.RowKit

/-- What the one that is given has become by those that were looked at. -/
structure Grown (r : Rn) (P : List Rn) (r' : Rn) : Prop where
  left : r'.s = r.s ∨ ∃ y ∈ P, r'.s = y.s ∧ y.e = r.s
  right : r'.e = r.e ∨ ∃ y ∈ P, r'.e = y.e ∧ y.s = r.e
  le1 : r'.s ≤ r.s
  le2 : r.e ≤ r'.e
  lo : 0 ≤ r'.s
  hi : r'.e ≤ 1099511627776
  no : ∀ y ∈ P, meetB y r = false
  cover : ∀ k, inB r' k = (inB r k || hasB P k)
theorem Grown.start {r : Rn} (h : oneB r = true) : Grown r [] r := by
  have := oneB_iff.1 h
  refine ⟨.inl rfl, .inl rfl, Int.le_refl _, Int.le_refl _, this.1, (by unfold Rn.e; omega), fun y hy => (by cases hy), fun k => by simp [hasB]⟩
/-- Those that stand between: they touch the one that is given, at least. -/
structure Near (r : Rn) (M : List Rn) : Prop where
  chk : chkB M = true
  l : ∀ y ∈ M, r.s ≤ y.e
  r : ∀ y ∈ M, y.s ≤ r.e
theorem near_ahead {r : Rn} {M : List Rn} (h : Near r M) {j : Nat} {x : Rn} (hx : M[j]? = some x) {y : Rn} (hy : y ∈ M.take j) : y.e < x.s := by
  have h1 := chk_part h.chk (j + 1)
  rw [List.take_add_one, hx] at h1
  exact (chk_append.1 h1).2.2 y hy x (by simp)
theorem meet_no {y r : Rn} (h : y.e ≤ r.s ∨ r.e ≤ y.s) : meetB y r = false := by
  cases hh : meetB y r with
  | false => rfl
  | true => have := meetB_iff.1 hh; omega
theorem Grown.join1 {r r' : Rn} {M : List Rn} {j : Nat} {x : Rn} (hr : oneB r = true) (hM : Near r M) (h : Grown r (M.take j) r') (hx : M[j]? = some x) (he : x.e = r'.s) : Grown r (M.take (j + 1)) ⟨x.s, x.c + r'.c⟩ := by
  have hxm := List.mem_of_getElem? hx
  have h1 := hM.l x hxm
  have hxo := oneB_iff.1 (chk_one hM.chk x hxm)
  have hxe := one_e (chk_one hM.chk x hxm)
  have hre := one_e hr
  have hle := h.le1
  have hse : r'.s = r.s := by omega
  have hta : M.take (j + 1) = M.take j ++ [x] := by rw [List.take_add_one, hx]; rfl
  have hee : (⟨x.s, x.c + r'.c⟩ : Rn).e = r'.e := by unfold Rn.e at *; simp only; omega
  rw [hta]
  refine ⟨.inr ⟨x, by simp, rfl, by omega⟩, ?_, by simp only; omega, by rw [hee]; exact h.le2, hxo.1, by rw [hee]; exact h.hi, fun y hy => ?_, fun k => ?_⟩
  · rw [hee]
    rcases h.right with q | ⟨y, hy, q⟩
    · exact .inl q
    · exact .inr ⟨y, List.mem_append_left _ hy, q⟩
  · rcases List.mem_append.1 hy with hy | hy
    · exact h.no y hy
    · obtain rfl : y = x := by simpa using hy
      exact meet_no (.inl (by omega))
  · rw [hasB_append, ← Bool.or_assoc, ← h.cover k]
    have hle2 := h.le2
    simp only [hasB, inB, List.any_cons, List.any_nil, Bool.or_false, hee]
    rw [Bool.eq_iff_iff]
    simp only [Bool.or_eq_true, Bool.and_eq_true, decide_eq_true_eq]
    omega
theorem Grown.join2 {r r' : Rn} {M : List Rn} {j : Nat} {x : Rn} (hr : oneB r = true) (hM : Near r M) (h : Grown r (M.take j) r') (hx : M[j]? = some x) (he : x.s = r'.e) : Grown r (M.take (j + 1)) ⟨r'.s, r'.c + x.c⟩ := by
  have hxm := List.mem_of_getElem? hx
  have h1 := hM.r x hxm
  have hxo := oneB_iff.1 (chk_one hM.chk x hxm)
  have hxe := one_e (chk_one hM.chk x hxm)
  have hre := one_e hr
  have hle := h.le2
  have hse : r'.e = r.e := by omega
  have hta : M.take (j + 1) = M.take j ++ [x] := by rw [List.take_add_one, hx]; rfl
  have hee : (⟨r'.s, r'.c + x.c⟩ : Rn).e = x.e := by unfold Rn.e at *; simp only; omega
  have hxh : x.e ≤ 1099511627776 := by unfold Rn.e; omega
  rw [hta]
  refine ⟨?_, .inr ⟨x, by simp, by rw [hee], by omega⟩, h.le1, by rw [hee]; omega, h.lo, by rw [hee]; exact hxh, fun y hy => ?_, fun k => ?_⟩
  · rcases h.left with q | ⟨y, hy, q⟩
    · exact .inl q
    · exact .inr ⟨y, List.mem_append_left _ hy, q⟩
  · rcases List.mem_append.1 hy with hy | hy
    · exact h.no y hy
    · obtain rfl : y = x := by simpa using hy
      exact meet_no (.inr (by omega))
  · rw [hasB_append, ← Bool.or_assoc, ← h.cover k]
    have hle1 := h.le1
    simp only [hasB, inB, List.any_cons, List.any_nil, Bool.or_false, hee]
    rw [Bool.eq_iff_iff]
    simp only [Bool.or_eq_true, Bool.and_eq_true, decide_eq_true_eq]
    omega
theorem Grown.meets {r r' : Rn} {M : List Rn} {j : Nat} {x : Rn} (hM : Near r M) (h : Grown r (M.take j) r') (hx : M[j]? = some x) (h1 : ¬ x.e = r'.s) (h2 : ¬ x.s = r'.e) : meetB x r = true := by
  have hxm := List.mem_of_getElem? hx
  have l1 := hM.l x hxm
  have l2 := hM.r x hxm
  have hxe := one_e (chk_one hM.chk x hxm)
  refine meetB_iff.2 ⟨?_, ?_⟩
  · have : ¬ x.s = r.e := fun e => by
      rcases h.right with q | ⟨y, hy, q, q2⟩
      · omega
      · have := near_ahead hM hx hy
        have := one_e (chk_one hM.chk y (List.mem_of_mem_take hy))
        omega
    omega
  · have : ¬ x.e = r.s := fun e => by
      rcases h.left with q | ⟨y, hy, q, q2⟩
      · omega
      · have := near_ahead hM hx hy
        omega
    omega
/-- What stands between. -/
theorem near_of {l : List Rn} {r : Rn} (hl : chkB l = true) {f c : Nat} (hf : f = findN (fun x => decide (r.s ≤ x.e)) l) (hc : c = findN (fun x => decide (r.e < x.s)) (l.drop f)) : Near r ((l.drop f).take c) := by
  have hsp : chkB (l.take f ++ l.drop f) = true := by rw [List.take_append_drop]; exact hl
  have hd := (chk_append.1 hsp).2.1
  refine ⟨chk_part hd c, fun y hy => ?_, fun y hy => ?_⟩
  · have hy := List.mem_of_mem_take hy
    cases hx : l[f]? with
    | none =>
      rw [List.drop_eq_nil_of_le (by rw [List.getElem?_eq_none_iff] at hx; exact hx)] at hy
      cases hy
    | some x =>
      have hs : r.s ≤ x.e := by have := findN_such _ l x (hf ▸ hx); simpa using this
      have hlt := (List.getElem?_eq_some_iff.1 hx).1
      rw [List.drop_eq_getElem_cons hlt, (List.getElem?_eq_some_iff.1 hx).2] at hy hd
      rcases List.mem_cons.1 hy with rfl | hy
      · exact hs
      · have h1 := (chk_cons.1 hd).2.2 y hy
        have h2 := one_e (chk_one (chk_cons.1 hd).2.1 y hy)
        omega
  · have := findN_before (fun x => decide (r.e < x.s)) (l.drop f) y (hc ▸ hy)
    have h2 : ¬ r.e < y.s := by simpa using this
    omega
/-- One between meets it: nothing is given. -/
theorem give_none {l : List Rn} {r : Rn} {f c j : Nat} {x : Rn} (hx : ((l.drop f).take c)[j]? = some x) (h : meetB x r = true) : giveT l r = none := by
  unfold giveT
  have : l.any (fun a => meetB a r) = true := List.any_eq_true.2 ⟨x, List.mem_of_mem_drop (List.mem_of_mem_take (List.mem_of_getElem? hx)), h⟩
  split
  · rfl
  · rfl
/-- What is given. -/
theorem give_some {l : List Rn} {r r' : Rn} (hl : chkB l = true) (hr : oneB r = true) {f c : Nat} (hf : f = findN (fun x => decide (r.s ≤ x.e)) l) (hc : c = findN (fun x => decide (r.e < x.s)) (l.drop f)) (h : Grown r ((l.drop f).take c) r') :
    giveT l r = some (l.take f ++ ([r'] ++ l.drop (f + c))) := by
  have hsp : l = l.take f ++ ((l.drop f).take c ++ l.drop (f + c)) := by
    rw [← List.drop_drop, List.take_append_drop, List.take_append_drop]
  have hA : ∀ a ∈ l.take f, a.e < r.s := fun a ha => by
    have := findN_before (fun x => decide (r.s ≤ x.e)) l a (hf ▸ ha)
    simpa using this
  have hBs : ∀ b ∈ l.drop (f + c), r.e < b.s := fun b hb => by
    rw [← List.drop_drop] at hb
    have hd : chkB ((l.drop f).drop c) = true := by
      have h1 := (chk_append.1 (hsp ▸ hl)).2.1
      rw [← List.drop_drop] at h1
      exact (chk_append.1 h1).2.1
    cases hx : (l.drop f)[c]? with
    | none =>
      rw [List.drop_eq_nil_of_le (by rw [List.getElem?_eq_none_iff] at hx; exact hx)] at hb
      cases hb
    | some x =>
      have hs : r.e < x.s := by have := findN_such _ (l.drop f) x (hc ▸ hx); simpa using this
      have hlt := (List.getElem?_eq_some_iff.1 hx).1
      rw [List.drop_eq_getElem_cons hlt, (List.getElem?_eq_some_iff.1 hx).2] at hb hd
      rcases List.mem_cons.1 hb with rfl | hb
      · exact hs
      · have h1 := (chk_cons.1 hd).2.2 b hb
        have h2 := one_e (chk_one hd x (by simp))
        omega
  have hl' := hl
  rw [hsp] at hl'
  obtain ⟨k1, k2, k3⟩ := chk_append.1 hl'
  obtain ⟨k4, k5, k6⟩ := chk_append.1 k2
  generalize (l.drop f).take c = M at *
  generalize l.take f = A at *
  generalize l.drop (f + c) = B at *
  have hre := one_e hr
  have hle1 := h.le1
  have hle2 := h.le2
  refine give_is hl hr (fun k hk => ?_) ?_ (fun k => ?_)
  · have hk2 := inB_iff.1 hk
    cases hh : hasB l k with
    | false => rfl
    | true =>
      rw [hsp] at hh
      obtain ⟨y, hy, y1, y2⟩ := hasB_iff.1 hh
      rcases List.mem_append.1 hy with hy | hy
      · have := hA y hy; omega
      · rcases List.mem_append.1 hy with hy | hy
        · have := h.no y hy
          rw [meetB_iff.2 ⟨by omega, by omega⟩] at this
          cases this
        · have := hBs y hy; omega
  · have hr' : oneB r' = true := oneB_iff.2 ⟨h.lo, by have := h.hi; omega, by unfold Rn.e at *; omega, by have := h.hi; unfold Rn.e at *; omega⟩
    refine chk_append.2 ⟨k1, chk_cons.2 ⟨hr', k5, fun b hb => ?_⟩, fun a ha b hb => ?_⟩
    · rcases h.right with q | ⟨y, hy, q, _⟩
      · rw [q]; exact hBs b hb
      · rw [q]; exact k6 y hy b hb
    · rcases List.mem_cons.1 hb with rfl | hb
      · rcases h.left with q | ⟨y, hy, q, _⟩
        · rw [q]; exact hA a ha
        · rw [q]; exact k3 a ha y (List.mem_append_left _ hy)
      · exact k3 a ha b (List.mem_append_right _ hb)
  · rw [hasB_append, hasB_append, hsp, hasB_append, hasB_append]
    have := h.cover k
    rw [show hasB [r'] k = inB r' k by simp [hasB], this]
    cases hasB A k <;> cases inB r k <;> cases hasB M k <;> cases hasB B k <;> rfl
end Go.Proofs.Ytbnfhhjgalphgaa
