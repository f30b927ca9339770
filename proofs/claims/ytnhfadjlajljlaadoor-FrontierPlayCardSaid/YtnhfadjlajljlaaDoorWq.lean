/- The document's own frontier in memory; append of a number to a list of one's own; Ones, Len (layer 10). -/
import Derived.Test.YtnhfadjlajljlaaDoorW2
import Derived.Test.YtnhfadjlajljlaaDoorUa0
import Derived.Test.YtnhfadjlajljlaaDoor10d
/- The document's own frontier, plainly: sizes, and trees that become one (layer 10). -/
namespace Go.Proofs.YtnhfadjlajljlaaDoor
open Go.RowKit

/-- The sizes of the full trees of so many leaves. -/
def szN (n : Nat) : List Nat := if n = 0 then [] else (szN (n / 2)).map (2 * ·) ++ (if n % 2 = 1 then [1] else [])
  termination_by n
theorem szN_zero : szN 0 = [] := by rw [szN]; rfl
theorem szN_two (m : Nat) : szN (2 * m) = (szN m).map (2 * ·) := by
  by_cases h : m = 0
  · subst h; rw [szN_zero]; rfl
  · rw [szN, if_neg (by omega), show 2 * m / 2 = m by omega, if_neg (by omega), List.append_nil]
theorem szN_odd (m : Nat) : szN (2 * m + 1) = (szN m).map (2 * ·) ++ [1] := by
  rw [szN, if_neg (by omega), show (2 * m + 1) / 2 = m by omega, if_pos (by omega)]
theorem szN_length (n : Nat) : (szN n).length = pcN n := by
  induction n using Nat.strongRecOn with
  | _ n ih =>
    rcases two_or n with ⟨m, rfl⟩ | ⟨m, rfl⟩
    · by_cases h : m = 0
      · subst h; rw [szN_zero, pc_zero]; rfl
      · rw [szN_two, pc_two, List.length_map, ih m (by omega)]
    · rw [szN_odd, pc_odd, List.length_append, List.length_map, ih m (by omega)]; rfl
theorem sum_twice : ∀ l : List Nat, (l.map (2 * ·)).sum = 2 * l.sum
  | [] => rfl
  | x :: l => by simp only [List.map_cons, List.sum_cons, sum_twice l]; omega
theorem szN_sum (n : Nat) : (szN n).sum = n := by
  induction n using Nat.strongRecOn with
  | _ n ih =>
    rcases two_or n with ⟨m, rfl⟩ | ⟨m, rfl⟩
    · by_cases h : m = 0
      · subst h; rw [szN_zero]; rfl
      · rw [szN_two, sum_twice, ih m (by omega)]
    · rw [szN_odd, List.sum_append, sum_twice, ih m (by omega)]; rfl
theorem szN_pos (n : Nat) : ∀ x ∈ szN n, 1 ≤ x := by
  induction n using Nat.strongRecOn with
  | _ n ih =>
    rcases two_or n with ⟨m, rfl⟩ | ⟨m, rfl⟩
    · by_cases h : m = 0
      · subst h; rw [szN_zero]; intro x hx; cases hx
      · rw [szN_two]
        intro x hx
        obtain ⟨y, hy, rfl⟩ := List.mem_map.1 hx
        have := ih m (by omega) y hy
        omega
    · rw [szN_odd]
      intro x hx
      rcases List.mem_append.1 hx with hx | hx
      · obtain ⟨y, hy, rfl⟩ := List.mem_map.1 hx
        have := ih m (by omega) y hy
        omega
      · obtain rfl : x = 1 := by simpa using hx
        exact Nat.le_refl _
/-- The sizes from the greatest on, of fewer than 2 ^ e leaves. -/
def szT : Nat → Nat → List Nat
  | 0, _ => []
  | e + 1, n => if 2 ^ e ≤ n then 2 ^ e :: szT e (n - 2 ^ e) else szT e n
theorem szT_low : ∀ (e m r : Nat), r ≤ 1 → 2 * m + r < 2 ^ (e + 1) → szT (e + 1) (2 * m + r) = (szT e m).map (2 * ·) ++ (if r = 1 then [1] else [])
  | 0, m, r, hr, h => by
    obtain rfl : m = 0 := by omega
    rcases (show r = 0 ∨ r = 1 by omega) with rfl | rfl <;> rfl
  | e + 1, m, r, hr, h => by
    have hk : 2 ^ (e + 1) = 2 * 2 ^ e := by rw [Nat.pow_succ]; omega
    have hk2 : 2 ^ (e + 1 + 1) = 2 * (2 * 2 ^ e) := by rw [Nat.pow_succ, hk]; omega
    rw [szT]
    by_cases h2 : 2 ^ e ≤ m
    · rw [if_pos (by omega), hk, show 2 * m + r - 2 * 2 ^ e = 2 * (m - 2 ^ e) + r by omega, szT_low e (m - 2 ^ e) r hr (by omega), szT, if_pos h2]
      rfl
    · rw [if_neg (by omega), szT_low e m r hr (by omega), szT, if_neg h2]
theorem szT_eq : ∀ (e n : Nat), n < 2 ^ e → szT e n = szN n
  | 0, n, h => by
    obtain rfl : n = 0 := by simpa using h
    exact szN_zero.symm
  | e + 1, n, h => by
    have hk : 2 ^ (e + 1) = 2 * 2 ^ e := by rw [Nat.pow_succ]; omega
    rcases two_or n with ⟨m, rfl⟩ | ⟨m, rfl⟩
    · have := szT_low e m 0 (by omega) (by omega)
      show szT (e + 1) (2 * m + 0) = _
      rw [this, szT_eq e m (by omega), szN_two, if_neg (by omega), List.append_nil]
    · rw [szT_low e m 1 (by omega) (by omega), szT_eq e m (by omega), szN_odd, if_pos rfl]
/-- The sizes on the way: trees above, and one more of so many leaves. -/
def mgS (s m : Nat) : List Nat := (szN m).map (s * ·) ++ [s]
/-- The hashes on the way. -/
def mgH {H : Type} (L : List H) (m : Nat) (y : H) : List H := L.take (pcN m) ++ [y]
theorem mgS_length (s m : Nat) : (mgS s m).length = pcN m + 1 := by rw [mgS, List.length_append, List.length_map, szN_length]; rfl
theorem mgS_last (s m : Nat) : (mgS s m)[pcN m]? = some s := by
  rw [mgS, List.getElem?_append_right (by rw [List.length_map, szN_length]; omega), List.length_map, szN_length, Nat.sub_self]
  rfl
/-- Of a number that is odd the last tree is as great as the one more. -/
theorem mgS_odd (s m : Nat) : (mgS s (2 * m + 1))[pcN m]? = some s := by
  rw [mgS, szN_odd, List.map_append, List.append_assoc, List.getElem?_append_right (by rw [List.length_map, List.length_map, szN_length]; omega), List.length_map, List.length_map, szN_length, Nat.sub_self]
  simp
theorem mgS_even (s m k : Nat) (hs : 0 < s) (hk : pcN m = k + 1) : ∃ x, (mgS s (2 * m))[k]? = some x ∧ x ≠ s := by
  rw [mgS, szN_two]
  obtain ⟨y, hy⟩ : ∃ y, (szN m)[k]? = some y := ⟨_, List.getElem?_eq_getElem (by rw [szN_length]; omega)⟩
  have hp := szN_pos m y (List.mem_of_getElem? hy)
  refine ⟨s * (2 * y), ?_, ?_⟩
  · rw [List.getElem?_append_left (by rw [List.length_map, List.length_map, szN_length]; omega), List.getElem?_map, List.getElem?_map, hy]
    rfl
  · intro e
    have h1 : s * 2 ≤ s * (2 * y) := Nat.mul_le_mul_left s (by omega)
    omega
theorem mgS_step (s m : Nat) : (mgS s (2 * m + 1)).take (pcN m) ++ [2 * s] = mgS (2 * s) m := by
  rw [mgS, szN_odd, List.map_append, List.append_assoc, List.take_left' (by rw [List.length_map, List.length_map, szN_length]), mgS, List.map_map]
  congr 1
  apply List.map_congr_left
  intro a _
  show s * (2 * a) = 2 * s * a
  rw [← Nat.mul_assoc, Nat.mul_comm s 2]
theorem szN_scale : ∀ (j n : Nat), szN (2 ^ j * n) = (szN n).map (2 ^ j * ·)
  | 0, n => by simp
  | j + 1, n => by
    rw [Nat.pow_succ, Nat.mul_comm (2 ^ j) 2, Nat.mul_assoc, szN_two, szN_scale j n, List.map_map]
    apply List.map_congr_left
    intro a _
    show 2 * (2 ^ j * a) = 2 * 2 ^ j * a
    rw [Nat.mul_assoc]
theorem mgS_end (j m : Nat) : mgS (2 ^ j) (2 * m) = szN (2 ^ j * (2 * m + 1)) := by
  rw [szN_scale, szN_odd, List.map_append, mgS, szN_two]
  simp
/-- How far one has come: so many trees are left as they were, the last one has this size and this hash. -/
structure Mg (n : Nat) (L : List (List UInt8)) (h : List UInt8) (s m : Nat) (y : List UInt8) : Prop where
  two : ∃ j, s = 2 ^ j
  all : n + 1 = s * (m + 1)
  same : puL nodeL (tlN n) L h = puL nodeL (tlN m) (L.take (pcN m)) y
  y32 : y.length = 32
  few : pcN m ≤ L.length
theorem Mg.start {n : Nat} {L : List (List UInt8)} {h : List UInt8} (hl : L.length = pcN n) (hh : h.length = 32) : Mg n L h 1 n h :=
  ⟨⟨0, rfl⟩, by omega, by rw [← hl, List.take_length], hh, by omega⟩
theorem Mg.step {n s m : Nat} {L : List (List UInt8)} {h y x : List UInt8} (g : Mg n L h s (2 * m + 1) y) (hx : L[pcN m]? = some x) : Mg n L h (2 * s) m (nodeL x y) := by
  obtain ⟨j, hj⟩ := g.two
  have hf := g.few
  rw [pc_odd] at hf
  refine ⟨⟨j + 1, by rw [hj, Nat.pow_succ]; omega⟩, ?_, ?_, shaL_length _, by omega⟩
  · rw [g.all, Nat.mul_comm 2 s, Nat.mul_assoc]
    congr 1
  · rw [g.same, tl_odd, pc_odd, List.take_add_one, hx]
    exact puL_more nodeL _ _ _ _
theorem Mg.stop {n s m : Nat} {L : List (List UInt8)} {h y : List UInt8} (g : Mg n L h s (2 * m) y) : mgS s (2 * m) = szN (n + 1) ∧ mgH L (2 * m) y = puL nodeL (tlN n) L h := by
  obtain ⟨j, hj⟩ := g.two
  refine ⟨?_, ?_⟩
  · rw [g.all, hj, mgS_end]
  · rw [g.same, tl_two, puL_zero]
    rfl
theorem Mg.h32 {n s m : Nat} {L : List (List UInt8)} {h y : List UInt8} (g : Mg n L h s m y) (hL : ∀ x ∈ L, x.length = 32) : ∀ x ∈ mgH L m y, x.length = 32 := fun x hx => by
  rcases List.mem_append.1 hx with hx | hx
  · exact hL x (List.mem_of_mem_take hx)
  · obtain rfl : x = y := by simpa using hx
    exact g.y32
theorem Mg.le {n s m : Nat} {L : List (List UInt8)} {h y : List UInt8} (g : Mg n L h s m y) : s * (m + 1) = n + 1 ∧ 1 ≤ s := by
  obtain ⟨j, hj⟩ := g.two
  exact ⟨g.all.symm, by rw [hj]; exact Nat.pow_pos (by decide)⟩
end Go.Proofs.YtnhfadjlajljlaaDoor

namespace Go.Proofs.YtnhfadjlajljlaaDoor
open Go.RowKit

/-- Numbers as cells. -/
def isv (M : List Nat) : List Value := M.map fun (n : Nat) => Value.int .i64 (n : Int)
@[simp] theorem isv_length (M : List Nat) : (isv M).length = M.length := by simp [isv]
theorem isv_append (M N : List Nat) : isv (M ++ N) = isv M ++ isv N := by simp [isv]
theorem info_int10 : ∃ i, Tryd.prog.info? 3 = some i ∧ i.zero = some (.int .i64 0) ∧ i.size = 1 ∧ i.bytes = 8 := by
  have h : (Tryd.prog.info? 3).map (fun i => (i.zero, i.size, i.bytes)) = some (some (.int .i64 0), 1, 8) := by kernel_rfl
  cases hq : Tryd.prog.info? 3 with
  | none => rw [hq] at h; cases h
  | some i =>
    rw [hq] at h
    simp at h
    exact ⟨i, rfl, h.1, h.2.1, h.2.2⟩
theorem row_slice {w : World} {B : Nat} {e : TypeId} {z : Nat} {v : Value} {n : Nat} {xs : List Value} (h : w.ownsRow B e z v n xs) : ∃ a c, v = .slice a n c ∧ n ≤ c := by
  rcases h.2 with ⟨q1, q2⟩ | ⟨g, cap, cur, q1, _, _, q4, _⟩
  · exact ⟨none, 0, by rw [q1, q2], by omega⟩
  · exact ⟨_, _, q1, q4⟩
/-- A shorter part of a row of one's own. -/
theorem row_take {w : World} {B : Nat} {e : TypeId} {z k n : Nat} {a : Option Addr} {c : Nat} {xs : List Value} (h : w.ownsRow B e z (.slice a n c) n xs) (hk : k ≤ n) : w.ownsRow B e z (.slice a k c) k (xs.take (k * z)) := by
  have hl := h.1
  have hkz : k * z ≤ n * z := Nat.mul_le_mul_right z hk
  refine ⟨by rw [List.length_take, hl]; omega, ?_⟩
  rcases h.2 with ⟨q1, q2⟩ | ⟨g, cap, cur, q1, q2, q3, q4, q5, q6, q7⟩
  · obtain ⟨rfl, -, rfl⟩ := Value.slice.inj q1
    obtain rfl : k = 0 := by omega
    exact .inl ⟨rfl, rfl⟩
  · obtain ⟨rfl, -, rfl⟩ := Value.slice.inj q1
    refine .inr ⟨g, c, cur, rfl, q2, q3, Nat.le_trans hk q4, q5, q6, ?_⟩
    rw [← q7, List.take_take, Nat.min_eq_left hkz]
/-- append of one number to a list of one's own. -/
theorem wp_append_i1 {w : World} {B : Nat} {v : Value} {M : List Nat} {o : Oper} {a : Act} {K : Act → World → Prop} {Q : Exit → Act → World → Prop} (s y : Operand) (ho : o.op = .call { callee := .builtin .append, args := #[s, y], argTypes := #[36, 36] })
    (hs : a.eval s = v) (hM : w.ownsRow B 3 1 v M.length (isv M)) (g : Nat) (x : Nat) (hy : a.eval y = .slice (some ⟨g, 0, none⟩) 1 1) (hc : w.cell? ⟨g, 0, none⟩ = some (.int .i64 (x : Int))) (hl : M.length ≤ 1000) (hB : B ≤ w.heap.size)
    (h : ∀ v' w', w'.ownsRow B 3 1 v' (M ++ [x]).length (isv (M ++ [x])) → w.grownBy w' v.ownBlock → K (a.put o.dst v') w') : o.wp Tryd.prog a w K Q := by
  obtain ⟨ia, i1, i2, i3, i4⟩ := info_int10
  refine wp_append_own w s y 36 ho B 3 ia _ 1 8 Tryd.underlying36 i1 i2 i3 i4 rfl (by omega) v M.length (isv M) hs hM ⟨g, 0, none⟩ 1 1 [.int .i64 (x : Int)] hy rfl (fun j u hj => ?_) (fun u hu => ?_) (by simp only [maxLen]; omega) (by omega) hB (fun v' w' r1 r2 _ => ?_)
  · match j, hj with
    | 0, hj =>
      obtain rfl := Option.some.inj hj
      rw [Addr.add_mid]; exact hc
    | j + 1, hj => simp at hj
  · obtain rfl : u = .int .i64 (x : Int) := by simpa using hu
    rfl
  · rw [List.length_append] at h
    have e1 : isv (M ++ [x]) = isv M ++ [.int .i64 (x : Int)] := by rw [isv_append]; rfl
    rw [e1] at h
    exact h v' w' r1 r2
/-- The document's own frontier: its box, its sizes and its hashes, from B on. -/
structure Rf (w : World) (B b : Nat) (sv hw : Value) (Sz : List Nat) (Hs : List (List UInt8)) : Prop where
  box : w.heap[b]? = some (.cells #[sv, hw] 38 (0, 0))
  ge : B ≤ b
  sz : w.ownsRow B 3 1 sv Sz.length (isv Sz)
  hs : w.ownsRow B 30 32 hw Hs.length (hsv Hs)
  h32 : ∀ x ∈ Hs, x.length = 32
theorem row_kept {w w' : World} {B : Nat} {e : TypeId} {z : Nat} {v : Value} {n : Nat} {xs : List Value} (h : w.ownsRow B e z v n xs) (hk : ∀ k, v.ownBlock = some k → w'.heap[k]? = w.heap[k]?) : w'.ownsRow B e z v n xs := by
  refine ⟨h.1, ?_⟩
  rcases h.2 with q | ⟨g, cap, cur, q1, q2, q3, q4⟩
  · exact .inl q
  · exact .inr ⟨g, cap, cur, q1, q2, (hk g (by rw [q1]; rfl)).trans q3, q4⟩
theorem row_at {w : World} {B : Nat} {e : TypeId} {z : Nat} {v : Value} {n : Nat} {xs : List Value} (h : w.ownsRow B e z v n xs) {k : Nat} (hk : v.ownBlock = some k) : B ≤ k ∧ ∃ cur, w.heap[k]? = some (.cells cur e (0, 0)) := by
  rcases h.2 with ⟨q1, -⟩ | ⟨g, cap, cur, q1, q2, q3, -⟩
  · rw [q1] at hk; cases hk
  · rw [q1] at hk
    obtain rfl : g = k := Option.some.inj hk
    exact ⟨q2, cur, q3⟩
section
variable {w w' : World} {B b : Nat} {sv hw : Value} {Sz : List Nat} {Hs : List (List UInt8)}
theorem Rf.lt (h : Rf w B b sv hw Sz Hs) : b < w.heap.size := (Array.getElem?_eq_some_iff.1 h.box).1
theorem Rf.le (h : Rf w B b sv hw Sz Hs) : B ≤ w.heap.size := Nat.le_trans h.ge (Nat.le_of_lt h.lt)
theorem Rf.next (h : Rf w B b sv hw Sz Hs) (hb : Below w.heap.size w w') : Rf w' B b sv hw Sz Hs :=
  ⟨(hb.block _ h.lt).trans h.box, h.ge, row_kept h.sz fun k hk => hb.block _ (by obtain ⟨-, cur, e⟩ := row_at h.sz hk; exact (Array.getElem?_eq_some_iff.1 e).1), row_kept h.hs fun k hk => hb.block _ (by obtain ⟨-, cur, e⟩ := row_at h.hs hk; exact (Array.getElem?_eq_some_iff.1 e).1), h.h32⟩
/-- A block of another kind turns. -/
theorem Rf.but {b' : Nat} (h : Rf w B b sv hw Sz Hs) (hb : But b' w w') {C : Array Value} {ty : TypeId} {q : Nat × Nat} (hg : w.heap[b']? = some (.cells C ty q)) (h1 : ty ≠ 38) (h2 : ty ≠ 3) (h3 : ty ≠ 30) : Rf w' B b sv hw Sz Hs := by
  have key : ∀ (k : Nat) (C' : Array Value) (ty' : TypeId) (q' : Nat × Nat), w.heap[k]? = some (.cells C' ty' q') → ty ≠ ty' → w'.heap[k]? = w.heap[k]? := fun k C' ty' q' e hne => by
    refine hb.block _ (Array.getElem?_eq_some_iff.1 e).1 (fun e2 => ?_)
    subst e2
    rw [hg] at e
    cases e
    exact hne rfl
  refine ⟨(key _ _ _ _ h.box h1).trans h.box, h.ge, row_kept h.sz fun k hk => ?_, row_kept h.hs fun k hk => ?_, h.h32⟩
  · obtain ⟨-, cur, e⟩ := row_at h.sz hk
    exact key _ _ _ _ e h2
  · obtain ⟨-, cur, e⟩ := row_at h.hs hk
    exact key _ _ _ _ e h3
theorem Rf.hsAt (h : Rf w B b sv hw Sz Hs) : HsAt w hw Hs := Mh.at_ ⟨Below.refl _ _, h.le, h.h32, h.hs⟩
theorem Rf.cells (h : Rf w B b sv hw Sz Hs) : w.cell? ⟨b, 0, none⟩ = some sv ∧ w.cell? ⟨b, 1, none⟩ = some hw :=
  ⟨by rw [cell_of_row _ _ _ _ _ _ h.box]; rfl, by rw [cell_of_row _ _ _ _ _ _ h.box]; rfl⟩
theorem Rf.size_at (h : Rf w B b sv hw Sz Hs) {i x : Nat} (hx : Sz[i]? = some x) : ∃ g c, sv = .slice (some ⟨g, 0, none⟩) Sz.length c ∧ Sz.length ≤ c ∧ w.cell? ⟨g, i, none⟩ = some (.int .i64 (x : Int)) := by
  have hl := (List.getElem?_eq_some_iff.1 hx).1
  rcases h.sz.2 with ⟨-, q2⟩ | ⟨g, cap, cur, q1, q2, q3, q4, q5, q6, q7⟩
  · omega
  · refine ⟨g, cap, q1, q4, ?_⟩
    have h1 : (isv Sz)[i]? = some (.int .i64 (x : Int)) := by rw [isv, List.getElem?_map, hx]; rfl
    rw [← q7, List.getElem?_take, if_pos (by omega)] at h1
    rw [cell_of_row _ _ _ _ _ _ q3, ← Array.getElem?_toList]
    exact h1
end
set_option maxRecDepth 100000 in
set_option linter.unusedSimpArgs false in
/-- The document's own Ones. -/
theorem rones_any (n : Nat) (w : World) (hn : n < 9223372036854775808) : Calls Tryd.prog 26 #[.int .i64 n] w fun e w' => e = .returned (.int .i64 (pcN n)) ∧ w' = w := by
  go_enter Tryd.func26, Tryd.ntmps26
  go_wp2
  go_loopw [0, 3] (fun nv kv wr => wr = w ∧ ∃ m k : Nat, nv = .int .i64 m ∧ kv = .int .i64 k ∧ m ≤ n ∧ k + pcN m = pcN n) (fun nv _ _ => (intOf nv).toNat)
  case atStart => exact ⟨rfl, n, 0, rfl, rfl, Nat.le_refl _, by omega⟩
  case round =>
    obtain ⟨rfl, m, k, rfl, rfl, hm, hk⟩ := hrel
    by_cases h0 : m = 0
    · subst h0
      have hng : ¬ ((0 : Nat) : Int) > 0 := by omega
      have hkk : Hid (k = pcN n) := by show _ = _; rw [pc_zero] at hk; omega
      clear hk hm
      go_wp2
      go_ret
      exact ⟨by rw [hkk.out]; rfl, rfl⟩
    · have hgt : (m : Int) > 0 := by omega
      have hpl := pc_le 63 n (by omega)
      have hq : Hid (k + m % 2 + pcN (m / 2) = pcN n) := by
        show _ = _
        rw [pcN, if_neg h0] at hk
        omega
      have hk2 : k + m % 2 ≤ 63 := by have := hq.out; omega
      have hwk : Hid (wrap64 ((k : Int) + (m : Int) % 2) = (k : Int) + (m : Int) % 2) := by show _ = _; unfold wrap64; omega
      have hwq : Hid (wrap64 ((m : Int) / 2) = (m : Int) / 2) := by show _ = _; unfold wrap64; omega
      have hlt : Hid (m / 2 < m) := by show _ < _; omega
      have hle : Hid (m / 2 ≤ n) := by show _ ≤ _; omega
      have e1 : Hid (((m / 2 : Nat) : Int) = (m : Int) / 2) := by show _ = _; omega
      have e2 : Hid (((k + m % 2 : Nat) : Int) = (k : Int) + (m : Int) % 2) := by show _ = _; omega
      clear hk hpl hm
      go_wp2_with (first | (simp only [hwk.out, hwq.out]) | fail)
      go_roundw
      case rel => exact ⟨by first | rfl | trivial, m / 2, k + m % 2, by simp only [hwq.out, e1.out], by simp only [e2.out], hle.out, hq.out⟩
      case measure => simp [intOf, hwq.out]; omega
set_option maxRecDepth 100000 in
set_option linter.unusedSimpArgs false in
/-- The document's own Len. -/
theorem rlen_any {w : World} {B b n : Nat} {sv hw : Value} {Hs : List (List UInt8)} (h : Rf w B b sv hw (szN n) Hs) (hn : n < 9223372036854775808) : Calls Tryd.prog 13 #[.pointer (some ⟨b, 0, none⟩)] w fun e w' => e = .returned (.int .i64 n) ∧ w' = w := by
  obtain ⟨c0, -⟩ := h.cells
  obtain ⟨a, c, rfl, hlc⟩ := row_slice h.sz
  have hlen := szN_length n
  have hpc := pc_le 63 n (by omega)
  have hsum : ∀ i, ((szN n).take i).sum ≤ n := fun i => by
    have h1 := szN_sum n
    have h2 : (szN n).sum = ((szN n).take i).sum + ((szN n).drop i).sum := by rw [← List.sum_append, List.take_append_drop]
    omega
  have HS : Hid (∀ i, ((szN n).take i).sum ≤ n) := hsum
  have HC : Hid (∀ (i x : Nat), (szN n)[i]? = some x → ∃ g, a = some ⟨g, 0, none⟩ ∧ w.cell? ⟨g, i, none⟩ = some (.int .i64 (x : Int))) := fun i x hx => by
    obtain ⟨g, c', e, -, hc⟩ := h.size_at hx
    exact ⟨g, (Value.slice.inj e).1, hc⟩
  obtain ⟨q, hq⟩ : ∃ q, (szN n).length = q := ⟨_, rfl⟩
  have HQ : Hid ((szN n).length = q) := hq
  have hq63 : q ≤ 63 := by omega
  rw [hq] at c0 hlc
  clear h hlen hpc hsum hq
  go_enter Tryd.func13, Tryd.ntmps13
  go_wp2
  go_loopw [3, 4] (fun sv iv wr => wr = w ∧ ∃ i : Nat, i ≤ q ∧ sv = .int .i64 (((szN n).take i).sum) ∧ iv = .int .i64 i) (fun _ iv _ => q - (intOf iv).toNat)
  case atStart => exact ⟨rfl, 0, Nat.zero_le _, rfl, rfl⟩
  case round =>
    obtain ⟨rfl, i, hi, rfl, rfl⟩ := hrel
    by_cases hi2 : i < q
    · obtain ⟨x, hx⟩ : ∃ x, (szN n)[i]? = some x := ⟨_, List.getElem?_eq_getElem (by rw [HQ.out]; exact hi2)⟩
      obtain ⟨g, rfl, cx⟩ := HC.out i x hx
      have hst : Hid (((szN n).take i).sum + x = ((szN n).take (i + 1)).sum) := by
        show _ = _
        rw [List.take_add_one, hx, List.sum_append]
        simp
      have hle := HS.out (i + 1)
      have hwr : Hid (wrap64 ((((szN n).take i).sum : Nat) + (x : Int)) = ((((szN n).take i).sum : Nat) : Int) + (x : Int)) := by show _ = _; have := hst.out; unfold wrap64; omega
      have hwi : Hid (wrap64 ((i : Int) + 1) = (i : Int) + 1) := by show _ = _; unfold wrap64; omega
      have k1 : (i : Int) < (q : Int) := by omega
      clear hx hle hn
      generalize ((szN n).take i).sum = z at *
      go_wp2_with (first | (simp only [hwr.out, hwi.out]) | fail)
      go_roundw
      case rel => exact ⟨by first | rfl | trivial, i + 1, by omega, by rw [← hst.out]; go_num, by go_num⟩
      case measure => simp [intOf]; omega
    · obtain rfl : i = q := by omega
      have k1 : ¬ (i : Int) < (i : Int) := by omega
      have hz : Hid (((szN n).take i).sum = n) := by
        show _ = _
        rw [List.take_of_length_le (by rw [HQ.out]; omega), szN_sum]
      clear hi hi2 hn
      rw [hz.out]
      go_wp2
      go_ret
      exact ⟨rfl, rfl⟩
end Go.Proofs.YtnhfadjlajljlaaDoor
