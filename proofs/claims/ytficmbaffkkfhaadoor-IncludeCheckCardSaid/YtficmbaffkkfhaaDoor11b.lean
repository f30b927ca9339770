/- The parts beside a leaf, told one by one: an iterator that calls itself (layer 11). -/
import Derived.Test.YtficmbaffkkfhaaDoor11a
import Derived.Test.YtficmbaffkkfhaaDoorR9j
import Derived.RangeFuncNested
import Derived.RangeFuncBound
import Derived.RangeFuncCalls
import Derived.RangeFuncLeaves
import Derived.RangeFuncBox
import Derived.Shelf.Abstract
import Derived.Shelf.RegionOpen
import Derived.WalkKit
import Derived.OwnWalkIn
import Derived.TacticsInMore
import Derived.LoopNIn
import Derived.LoopIn
namespace Go.Proofs.YtficmbaffkkfhaaDoor
open Go.RowKit Go.Shelf
attribute [local go_sem] Oper.semAt_some

/-- A part of n leaves. -/
def Pt (n : Nat) : Type := { p : Nat × Nat // p.1 ≤ p.2 ∧ p.2 ≤ n }
def ptC (s e : Nat) : Array Value := #[.int .i64 (s : Int), .int .i64 (e : Int)]
/-- As it is handed on. -/
def ptV {n : Nat} (p : Pt n) : Array Value := #[.agg (ptC p.1.1 p.1.2)]
/-- The boxes that hold a part stay. -/
def KeepP (W W' : World) : Prop := W.heap.size ≤ W'.heap.size ∧ ∀ (k : Nat) (C : Array Value) (q : Nat × Nat), W.heap[k]? = some (.cells C 55 q) → W'.heap[k]? = W.heap[k]?
theorem KeepP.t {X Y Z : World} (h : KeepP X Y) (k : KeepP Y Z) : KeepP X Z := ⟨Nat.le_trans h.1 k.1, fun m C q e => (k.2 m C q ((h.2 m C q e).trans e)).trans (h.2 m C q e)⟩
theorem KeepP.refl (W : World) : KeepP W W := ⟨Nat.le_refl _, fun _ _ _ _ => rfl⟩
theorem KeepP.new {W W' : World} (h : Below W.heap.size W W') : KeepP W W' := ⟨h.size, fun k _ _ e => h.block k (Array.getElem?_eq_some_iff.1 e).1⟩
theorem grown_new {W W' : World} (h : Below W.heap.size W W') : W.grownBy W' none := ⟨h.os, h.tape, h.output, h.size, fun k hk _ => h.block k hk⟩
/-- In the wide fence the room is no matter. -/
theorem yield_room {m m' : Nat} {P : Program} {l : Nat} {args : Array Value} {W : World} {R : Ending → World → Prop} (h : YieldAt Fence.wide m P l args W R) : YieldAt Fence.wide m' P l args W R :=
  h.elim fun fn h => h.elim fun t h => h.elim fun a h => h.elim fun b h => ⟨fn, t, a, b, h.1, h.2.1, fun c cs _ => h.2.2 c cs fun _ hd => nomatch hd⟩
set_option maxRecDepth 100000 in
set_option maxHeartbeats 4000000 in
theorem climb_left {l i s e q k n : Nat} {W W3 : World} (hw1 : wrap64 ((e : Int) - (s : Int)) = ((e - s : Nat) : Int)) (hw2 : wrap64 ((s : Int) + (k : Int)) = (q : Int)) (hk0 : ((k : Int) == 0) = false)
    (HS : Hid (∀ w, CallsIn Fence.wide (n - 1) Tryd.prog 20 #[.int .i64 ((e - s : Nat) : Int)] w fun r w' => r = .returned (.int .i64 (k : Nat)) ∧ w' = w))
    (hW3 : Hid (((W.alloc (.cells #[.int .i64 (s : Int), .int .i64 (e : Int)] 55)).alloc (.cells #[.int .i64 (s : Int), .int .i64 (q : Int)] 55)).alloc (.cells #[.int .i64 (q : Int), .int .i64 (e : Int)] 55) = W3))
    (hlt : (i : Int) < (q : Int)) {A1 A2 A3 A4 : World → Prop}
    (IH : Hid (CallsIn Fence.wide (n - 1) Tryd.prog 34 #[.int .i64 (i : Int), .agg #[.int .i64 (s : Int), .int .i64 (q : Int)], .func (.yield l) #[] #[]] W3 fun r W1 =>
      (r = .returned (.bool true) ∧ W1.heap[W.heap.size + 1 + 1]? = some (.cells #[.int .i64 (q : Int), .int .i64 (e : Int)] 55 (0, 0)) ∧ A1 W1) ∨ (r = .returned (.bool false) ∧ A2 W1)))
    (HY : Hid (∀ W1, A1 W1 → YieldAt Fence.wide (n - 1) Tryd.prog l #[.agg #[.int .i64 (q : Int), .int .i64 (e : Int)]] W1 fun e W' => (e = .returned (.bool true) ∧ A3 W') ∨ (e = .returned (.bool false) ∧ A4 W'))) :
    CallsIn Fence.wide n Tryd.prog 34 #[.int .i64 (i : Int), .agg #[.int .i64 (s : Int), .int .i64 (e : Int)], .func (.yield l) #[] #[]] W fun r W' =>
      (r = .returned (.bool true) ∧ A3 W') ∨ (r = .returned (.bool false) ∧ (A2 W' ∨ A4 W')) := by
  refine callsIn_of_wp Tryd.func34 rfl trivial ?_ rfl
  simp only [Tryd.ntmps34, List.size_toArray, List.length_cons, List.length_nil, Nat.reduceAdd, Nat.reduceSub, Array.replicate_succ, Array.replicate_zero, List.push_toArray, List.append_toArray, List.nil_append, List.cons_append]
  gi_wp2_with fail
  refine ⟨trivial, (fun h => nomatch h), ?_⟩
  refine (HS.out _).mono ?_
  clear HS
  rintro r w' ⟨rfl, rfl⟩
  gi_wp2_with fail
  rw [hW3.out]
  refine ⟨trivial, (fun h => nomatch h), ?_⟩
  refine IH.out.mono ?_
  clear IH hW3
  rintro r W1 (⟨rfl, hg, h1⟩ | ⟨rfl, h2⟩)
  · obtain ⟨fn, tmps, assign, body, hy, hR⟩ := HY.out W1 h1
    have c0 : W1.cell? ⟨W.heap.size + 1 + 1, 0, none⟩ = some (.int .i64 (q : Int)) := by rw [cell_of_row _ _ _ _ _ _ hg]; rfl
    have c1 : W1.cell? ⟨W.heap.size + 1 + 1, 1, none⟩ = some (.int .i64 (e : Int)) := by rw [cell_of_row _ _ _ _ _ _ hg]; rfl
    clear HY hg h1
    gi_wp2_with fail
    refine ⟨(fun h => nomatch h), ?_⟩
    refine hR.mono ?_
    clear hR
    rintro e2 W2 (⟨rfl, h3⟩ | ⟨rfl, h4⟩)
    · have HX : Hid (A3 W2) := h3
      clear h3
      gi_wp2_with fail
      go_ret
      exact .inl ⟨rfl, HX.out⟩
    · have HX : Hid (A4 W2) := h4
      clear h4
      gi_wp2_with fail
      go_ret
      exact .inr ⟨rfl, .inr HX.out⟩
  · have HX : Hid (A2 W1) := h2
    clear HY h2
    gi_wp2_with fail
    refine ⟨fun _ h => (by cases h), ?_⟩
    gi_wp2_with fail
    go_ret
    exact .inr ⟨rfl, .inl HX.out⟩
set_option maxRecDepth 100000 in
set_option maxHeartbeats 4000000 in
theorem climb_right {l i s e q k n : Nat} {W W3 : World} (hw1 : wrap64 ((e : Int) - (s : Int)) = ((e - s : Nat) : Int)) (hw2 : wrap64 ((s : Int) + (k : Int)) = (q : Int)) (hk0 : ((k : Int) == 0) = false)
    (HS : Hid (∀ w, CallsIn Fence.wide (n - 1) Tryd.prog 20 #[.int .i64 ((e - s : Nat) : Int)] w fun r w' => r = .returned (.int .i64 (k : Nat)) ∧ w' = w))
    (hW3 : Hid (((W.alloc (.cells #[.int .i64 (s : Int), .int .i64 (e : Int)] 55)).alloc (.cells #[.int .i64 (s : Int), .int .i64 (q : Int)] 55)).alloc (.cells #[.int .i64 (q : Int), .int .i64 (e : Int)] 55) = W3))
    (hlt : ¬ (i : Int) < (q : Int)) {A1 A2 A3 A4 : World → Prop}
    (IH : Hid (CallsIn Fence.wide (n - 1) Tryd.prog 34 #[.int .i64 (i : Int), .agg #[.int .i64 (q : Int), .int .i64 (e : Int)], .func (.yield l) #[] #[]] W3 fun r W1 =>
      (r = .returned (.bool true) ∧ W1.heap[W.heap.size + 1]? = some (.cells #[.int .i64 (s : Int), .int .i64 (q : Int)] 55 (0, 0)) ∧ A1 W1) ∨ (r = .returned (.bool false) ∧ A2 W1)))
    (HY : Hid (∀ W1, A1 W1 → YieldAt Fence.wide (n - 1) Tryd.prog l #[.agg #[.int .i64 (s : Int), .int .i64 (q : Int)]] W1 fun e W' => (e = .returned (.bool true) ∧ A3 W') ∨ (e = .returned (.bool false) ∧ A4 W'))) :
    CallsIn Fence.wide n Tryd.prog 34 #[.int .i64 (i : Int), .agg #[.int .i64 (s : Int), .int .i64 (e : Int)], .func (.yield l) #[] #[]] W fun r W' =>
      (r = .returned (.bool true) ∧ A3 W') ∨ (r = .returned (.bool false) ∧ (A2 W' ∨ A4 W')) := by
  refine callsIn_of_wp Tryd.func34 rfl trivial ?_ rfl
  simp only [Tryd.ntmps34, List.size_toArray, List.length_cons, List.length_nil, Nat.reduceAdd, Nat.reduceSub, Array.replicate_succ, Array.replicate_zero, List.push_toArray, List.append_toArray, List.nil_append, List.cons_append]
  gi_wp2_with fail
  refine ⟨trivial, (fun h => nomatch h), ?_⟩
  refine (HS.out _).mono ?_
  clear HS
  rintro r w' ⟨rfl, rfl⟩
  gi_wp2_with fail
  rw [hW3.out]
  refine ⟨trivial, (fun h => nomatch h), ?_⟩
  refine IH.out.mono ?_
  clear IH hW3
  rintro r W1 (⟨rfl, hg, h1⟩ | ⟨rfl, h2⟩)
  · obtain ⟨fn, tmps, assign, body, hy, hR⟩ := HY.out W1 h1
    have c0 : W1.cell? ⟨W.heap.size + 1, 0, none⟩ = some (.int .i64 (s : Int)) := by rw [cell_of_row _ _ _ _ _ _ hg]; rfl
    have c1 : W1.cell? ⟨W.heap.size + 1, 1, none⟩ = some (.int .i64 (q : Int)) := by rw [cell_of_row _ _ _ _ _ _ hg]; rfl
    clear HY hg h1
    gi_wp2_with fail
    refine ⟨(fun h => nomatch h), ?_⟩
    refine hR.mono ?_
    clear hR
    rintro e2 W2 (⟨rfl, h3⟩ | ⟨rfl, h4⟩)
    · have HX : Hid (A3 W2) := h3
      clear h3
      gi_wp2_with fail
      go_ret
      exact .inl ⟨rfl, HX.out⟩
    · have HX : Hid (A4 W2) := h4
      clear h4
      gi_wp2_with fail
      go_ret
      exact .inr ⟨rfl, .inr HX.out⟩
  · have HX : Hid (A2 W1) := h2
    clear HY h2
    gi_wp2_with fail
    refine ⟨fun _ h => (by cases h), ?_⟩
    gi_wp2_with fail
    go_ret
    exact .inr ⟨rfl, .inl HX.out⟩
set_option maxRecDepth 100000 in
set_option maxHeartbeats 4000000 in
theorem climb_one {l i s e n : Nat} {W : World} (hw1 : wrap64 ((e : Int) - (s : Int)) = ((e - s : Nat) : Int))
    (HS : Hid (∀ w, CallsIn Fence.wide (n - 1) Tryd.prog 20 #[.int .i64 ((e - s : Nat) : Int)] w fun r w' => r = .returned (.int .i64 (0 : Nat)) ∧ w' = w)) :
    CallsIn Fence.wide n Tryd.prog 34 #[.int .i64 (i : Int), .agg (ptC s e), .func (.yield l) #[] #[]] W fun r W' => r = .returned (.bool true) ∧ W' = W.alloc (.cells (ptC s e) 55) := by
  rw [ptC]
  refine callsIn_of_wp Tryd.func34 rfl trivial ?_ rfl
  simp only [Tryd.ntmps34, List.size_toArray, List.length_cons, List.length_nil, Nat.reduceAdd, Nat.reduceSub, Array.replicate_succ, Array.replicate_zero, List.push_toArray, List.append_toArray, List.nil_append, List.cons_append]
  gi_wp2_with fail
  refine ⟨trivial, (fun h => nomatch h), ?_⟩
  refine (HS.out _).mono ?_
  clear HS
  rintro r w' ⟨rfl, rfl⟩
  gi_wp2_with fail
  go_ret
  exact ⟨rfl, rfl⟩
set_option maxHeartbeats 2000000 in
theorem climb_in (l N i M : Nat) (J Jx : List (Pt N) → World → Prop) {B : Nat} (hJ : AbidesFrom B J) (hN : N < 9223372036854775808)
    (hY : ∀ (m : Nat) (pre : List (Pt N)) (x : Pt N) (W : World), J pre W → pre.length < M → YieldAt Fence.wide m Tryd.prog l (ptV x) W fun e W' => (e = .returned (.bool true) ∧ J (pre ++ [x]) W' ∧ KeepP W W') ∨ (e = .returned (.bool false) ∧ Jx (pre ++ [x]) W')) (f : Nat) :
    ∀ (s e n : Nat) (pre : List (Pt N)) (W : World), e - s ≤ f → s ≤ i → i < e → e ≤ N → J pre W → pre.length + (bes i s e).length ≤ M →
      CallsIn Fence.wide n Tryd.prog 34 #[.int .i64 (i : Int), .agg (ptC s e), .func (.yield l) #[] #[]] W fun r W' =>
        (r = .returned (.bool true) ∧ (∃ ys : List (Pt N), ys.map (·.1) = bes i s e ∧ J (pre ++ ys) W') ∧ KeepP W W') ∨ (r = .returned (.bool false) ∧ ∃ q, Jx (pre ++ q) W') := by
  induction f with
  | zero => intro s e n pre W hf hs he hen hJW hM; exact absurd hf (by omega)
  | succ f ih =>
    intro s e n pre W hf hs he hen hJW hM
    have hw1 : Hid (wrap64 ((e : Int) - (s : Int)) = ((e - s : Nat) : Int)) := by show _ = _; unfold wrap64; omega
    obtain ⟨k, hk⟩ : ∃ k, splitN (e - s) = k := ⟨_, rfl⟩
    have HS : Hid (∀ w, CallsIn Fence.wide (n - 1) Tryd.prog 20 #[.int .i64 ((e - s : Nat) : Int)] w fun r w' => r = .returned (.int .i64 (k : Nat)) ∧ w' = w) := fun w => by
      have := split_any ((e - s : Nat) : Int) w (by omega) (by omega)
      rw [splitZ_nat, hk] at this
      exact callsIn_wide.2 this
    by_cases h2 : e - s < 2
    · have hk0 : k = 0 := by rw [← hk]; exact split_small h2
      subst hk0
      have hb : Below W.heap.size W (W.alloc (.cells (ptC s e) 55)) := (Below.refl _ _).alloc (Nat.le_refl _) _
      refine (climb_one hw1.out HS).mono ?_
      rintro r W' ⟨rfl, rfl⟩
      exact .inl ⟨rfl, ⟨[], (bes_one h2).symm, by rw [List.append_nil]; exact hJ _ _ _ none hJW (grown_new hb) (fun r h => nomatch h)⟩, .new hb⟩
    · obtain ⟨s1, s2, -⟩ := split_ok (n := e - s) (by omega)
      rw [hk] at s1 s2
      have hk0 : ((k : Int) == 0) = false := by rw [beq_eq_false_iff_ne]; omega
      obtain ⟨q, hq⟩ : ∃ q, s + k = q := ⟨_, rfl⟩
      have hw2 : Hid (wrap64 ((s : Int) + (k : Int)) = (q : Int)) := by show _ = _; unfold wrap64; omega
      obtain ⟨W3, hW3⟩ : ∃ W3, ((W.alloc (.cells #[.int .i64 (s : Int), .int .i64 (e : Int)] 55)).alloc (.cells #[.int .i64 (s : Int), .int .i64 (q : Int)] 55)).alloc (.cells #[.int .i64 (q : Int), .int .i64 (e : Int)] 55) = W3 := ⟨_, rfl⟩
      have hb3 : Below W.heap.size W W3 := by
        rw [← hW3]
        exact (((Below.refl _ _).alloc (Nat.le_refl _) _).alloc (by simp) _).alloc (by simp; omega) _
      have g1 : W3.heap[W.heap.size + 1]? = some (.cells #[.int .i64 (s : Int), .int .i64 (q : Int)] 55 (0, 0)) := by
        rw [← hW3, Below.heap_alloc _ _ _ (by simp)]
        have := heap_alloc_last (W.alloc (.cells #[.int .i64 (s : Int), .int .i64 (e : Int)] 55)) (.cells #[.int .i64 (s : Int), .int .i64 (q : Int)] 55)
        rwa [World.size_alloc] at this
      have g2 : W3.heap[W.heap.size + 1 + 1]? = some (.cells #[.int .i64 (q : Int), .int .i64 (e : Int)] 55 (0, 0)) := by
        rw [← hW3]
        have := heap_alloc_last ((W.alloc (.cells #[.int .i64 (s : Int), .int .i64 (e : Int)] 55)).alloc (.cells #[.int .i64 (s : Int), .int .i64 (q : Int)] 55)) (.cells #[.int .i64 (q : Int), .int .i64 (e : Int)] 55)
        rwa [World.size_alloc, World.size_alloc] at this
      have hJ3 : J pre W3 := hJ _ _ _ none hJW (grown_new hb3) (fun r h => nomatch h)
      rw [ptC]
      by_cases hk1 : i < s + k
      · have hbes : bes i s e = bes i s q ++ [(q, e)] := by
          have h8 := bes_left (i := i) (s := s) (e := e) (Nat.le_of_not_lt h2) (by rw [hk]; exact hk1)
          rwa [hk, hq] at h8
        have hlen : pre.length + (bes i s q).length + 1 ≤ M := by rw [hbes, List.length_append, List.length_singleton] at hM; omega
        have IH := ih s q (n - 1) pre W3 (by omega) (by omega) (by omega) (by omega) hJ3 (by omega)
        rw [ptC] at IH
        refine (climb_left hw1.out hw2.out hk0 HS hW3 (by omega) (A1 := fun W1 => ∃ ys : List (Pt N), ys.map (·.1) = bes i s q ∧ J (pre ++ ys) W1 ∧ KeepP W3 W1) (A2 := fun W1 => ∃ q, Jx (pre ++ q) W1) (A3 := fun W2 => (∃ ys : List (Pt N), ys.map (·.1) = bes i s e ∧ J (pre ++ ys) W2) ∧ KeepP W W2) (A4 := fun W1 => ∃ q, Jx (pre ++ q) W1) (IH.mono ?_) ?_).mono ?_
        · rintro r W1 (⟨rfl, ⟨ys, h1, h3⟩, h4⟩ | ⟨rfl, h5⟩)
          · exact .inl ⟨rfl, (h4.2 _ _ _ g2).trans g2, ys, h1, h3, h4⟩
          · exact .inr ⟨rfl, h5⟩
        · rintro W1 ⟨ys, h1, h3, h4⟩
          have hyl : ys.length = (bes i s q).length := by rw [← h1, List.length_map]
          have hy : YieldAt Fence.wide (n - 1) Tryd.prog l #[.agg #[.int .i64 (q : Int), .int .i64 (e : Int)]] W1 _ := hY (n - 1) (pre ++ ys) ⟨(q, e), by simp only; omega⟩ W1 h3 (by rw [List.length_append]; omega)
          refine YieldAt.mono hy ?_
          rintro e2 W2 (⟨rfl, h5, h6⟩ | ⟨rfl, h5⟩)
          · exact .inl ⟨rfl, ⟨ys ++ [⟨(q, e), _⟩], by rw [List.map_append, h1, hbes]; rfl, by rw [← List.append_assoc]; exact h5⟩, (KeepP.new hb3).t (h4.t h6)⟩
          · exact .inr ⟨rfl, ys ++ [⟨(q, e), _⟩], by rw [← List.append_assoc]; exact h5⟩
        · rintro r W2 (⟨rfl, h5⟩ | ⟨rfl, h5 | h5⟩)
          · exact .inl ⟨rfl, h5⟩
          · exact .inr ⟨rfl, h5⟩
          · exact .inr ⟨rfl, h5⟩
      · have hbes : bes i s e = bes i q e ++ [(s, q)] := by
          have h8 := bes_right (i := i) (s := s) (e := e) (Nat.le_of_not_lt h2) (by rw [hk]; exact hk1)
          rwa [hk, hq] at h8
        have hlen : pre.length + (bes i q e).length + 1 ≤ M := by rw [hbes, List.length_append, List.length_singleton] at hM; omega
        have IH := ih q e (n - 1) pre W3 (by omega) (by omega) (by omega) (by omega) hJ3 (by omega)
        rw [ptC] at IH
        refine (climb_right hw1.out hw2.out hk0 HS hW3 (by omega) (A1 := fun W1 => ∃ ys : List (Pt N), ys.map (·.1) = bes i q e ∧ J (pre ++ ys) W1 ∧ KeepP W3 W1) (A2 := fun W1 => ∃ q, Jx (pre ++ q) W1) (A3 := fun W2 => (∃ ys : List (Pt N), ys.map (·.1) = bes i s e ∧ J (pre ++ ys) W2) ∧ KeepP W W2) (A4 := fun W1 => ∃ q, Jx (pre ++ q) W1) (IH.mono ?_) ?_).mono ?_
        · rintro r W1 (⟨rfl, ⟨ys, h1, h3⟩, h4⟩ | ⟨rfl, h5⟩)
          · exact .inl ⟨rfl, (h4.2 _ _ _ g1).trans g1, ys, h1, h3, h4⟩
          · exact .inr ⟨rfl, h5⟩
        · rintro W1 ⟨ys, h1, h3, h4⟩
          have hyl : ys.length = (bes i q e).length := by rw [← h1, List.length_map]
          have hy : YieldAt Fence.wide (n - 1) Tryd.prog l #[.agg #[.int .i64 (s : Int), .int .i64 (q : Int)]] W1 _ := hY (n - 1) (pre ++ ys) ⟨(s, q), by simp only; omega⟩ W1 h3 (by rw [List.length_append]; omega)
          refine YieldAt.mono hy ?_
          rintro e2 W2 (⟨rfl, h5, h6⟩ | ⟨rfl, h5⟩)
          · exact .inl ⟨rfl, ⟨ys ++ [⟨(s, q), _⟩], by rw [List.map_append, h1, hbes]; rfl, by rw [← List.append_assoc]; exact h5⟩, (KeepP.new hb3).t (h4.t h6)⟩
          · exact .inr ⟨rfl, ys ++ [⟨(s, q), _⟩], by rw [← List.append_assoc]; exact h5⟩
        · rintro r W2 (⟨rfl, h5⟩ | ⟨rfl, h5 | h5⟩)
          · exact .inl ⟨rfl, h5⟩
          · exact .inr ⟨rfl, h5⟩
          · exact .inr ⟨rfl, h5⟩
/-- beside: both numbers are boxed; the function captures the boxes. -/
theorem beside_in (i N : Int) (n : Nat) (w : World) :
    CallsIn Fence.wide n Tryd.prog 22 #[.int .i64 i, .int .i64 N] w fun e w' => e = .returned (.func (.func 33) #[] #[.pointer (some ⟨w.heap.size, 0, none⟩), .pointer (some ⟨w.heap.size + 1, 0, none⟩)]) ∧ w' = (w.alloc (.cells #[.int .i64 i] 3)).alloc (.cells #[.int .i64 N] 3) := by
  refine callsIn_of_wp Tryd.func22 rfl trivial ?_ rfl
  simp only [Tryd.ntmps22, List.size_toArray, List.length_cons, List.length_nil, Nat.reduceAdd, Nat.reduceSub, Array.replicate_succ, Array.replicate_zero, List.push_toArray, List.append_toArray, List.nil_append, List.cons_append]
  gi_wp2
  go_ret
  exact ⟨rfl, rfl⟩
set_option maxRecDepth 100000 in
set_option maxHeartbeats 2000000 in
/-- What it hands back tells the parts in their order, or some of them. -/
theorem beside_stops (n b1 b2 i N : Nat) (w : World) (hi : i < N) (hN : N < 9223372036854775808)
    (h1 : w.heap[b1]? = some (.cells #[.int .i64 (i : Int)] 3 (0, 0))) (h2 : w.heap[b2]? = some (.cells #[.int .i64 (N : Int)] 3 (0, 0))) :
    SeqStopsK Fence.wide n Tryd.prog 33 #[.pointer (some ⟨b1, 0, none⟩), .pointer (some ⟨b2, 0, none⟩)] (ptV (n := N)) KeepP (fun ys => ys.map (·.1) = bes i 0 N) (fun _ => True) (bes i 0 N).length w := by
  intro l J Jx W hW hJ _ hY h0
  have c1 : W.cell? ⟨b1, 0, none⟩ = some (.int .i64 (i : Int)) := by rw [cell_of_row _ _ _ _ _ _ ((hW.block _ (Array.getElem?_eq_some_iff.1 h1).1).trans h1)]; rfl
  have c2 : W.cell? ⟨b2, 0, none⟩ = some (.int .i64 (N : Int)) := by rw [cell_of_row _ _ _ _ _ _ ((hW.block _ (Array.getElem?_eq_some_iff.1 h2).1).trans h2)]; rfl
  have HC : Hid (CallsIn Fence.wide (n - 1) Tryd.prog 34 #[.int .i64 (i : Int), .agg #[.int .i64 0, .int .i64 (N : Int)], .func (.yield l) #[] #[]] W fun r W' => (∃ b, r = .returned (.bool b)) ∧ ((∃ ys : List (Pt N), ys.map (·.1) = bes i 0 N ∧ J ys W') ∨ (∃ q, True ∧ Jx q W'))) := by
    refine (climb_in l N i (bes i 0 N).length J Jx hJ hN (fun m pre x W1 hj hl => yield_room (hY pre x W1 hj hl)) N 0 N (n - 1) [] W (by omega) (Nat.zero_le _) hi (Nat.le_refl _) h0 (by simp)).mono ?_
    rintro r W1 (⟨rfl, ⟨ys, h3, h4⟩, -⟩ | ⟨rfl, q, h5⟩)
    · exact ⟨⟨_, rfl⟩, .inl ⟨ys, h3, h4⟩⟩
    · exact ⟨⟨_, rfl⟩, .inr ⟨q, trivial, h5⟩⟩
  clear hW hJ hY h0 h1 h2 hi hN
  refine callsIn_of_wp Tryd.func33 rfl trivial ?_ rfl
  simp only [Tryd.ntmps33, List.size_toArray, List.length_cons, List.length_nil, Nat.reduceAdd, Nat.reduceSub, Array.replicate_succ, Array.replicate_zero, List.push_toArray, List.append_toArray, List.nil_append, List.cons_append]
  gi_wp2_with fail
  refine ⟨trivial, (fun h => nomatch h), ?_⟩
  refine HC.out.mono ?_
  clear HC
  rintro r W1 ⟨⟨b, rfl⟩, h6⟩
  have H6 : Hid _ := h6
  clear h6
  gi_wp2_with fail
  go_end0
  exact ⟨⟨_, rfl⟩, H6.out⟩
end Go.Proofs.YtficmbaffkkfhaaDoor
