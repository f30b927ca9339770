/- append without a word on who is nil; slices.Grow of no slice; slices.Concat of lists of runs. -/
import Derived.Test.YtbnfhhjgalphgaaY1
import Derived.Lib.AppendZeros
import Derived.Lib.SliceRun
namespace Go.Proofs.Ytbnfhhjgalphgaa
open Go.RowKit

theorem rappend_none {P : Program} {w : World} (t ty e : TypeId) (i : TypeInfo) (ht : P.underlying t = some (.slice e)) (hi : P.info? e = some i) (xa : Option Addr) (c' : Nat) :
    (Builtin.append_ #[t, t] ty #[.slice none 0 0, .slice xa 0 c']).run P w = .ok (.slice none 0 0) w := by
  cases xa <;> simp [Builtin.append_, run_underlying ht, sizeOf, typeInfo, hi, Builtin.lenOf, Builtin.firstCells, loadCells, loadCellsFrom]
/-- append of runs to a list of one's own, whoever is nil. -/
theorem wp_append_mz {op : Oper} {a : Act} {W : World} {K : Act → World → Prop} {Q : Exit → Act → World → Prop} (s y : Operand) (ho : op.op = .call { callee := .builtin .append, args := #[s, y], argTypes := #[22, 22] })
    {w0 : World} {B : Nat} {ts : List (Value × List Rn)} {v : Value} {M : List Rn} (hM : Mr w0 B ts v M W) (xv : Value) (N R : List Rn) (n : Nat) (hs : a.eval s = v) (hy : a.eval y = xv) (hN : RunsAt W xv N)
    (hR : M ++ N = R) (hn : R.length = n) (hl : n ≤ 1000000)
    (h : ∀ xa xc w', n ≤ xc → Mr w0 B ts (.slice xa n xc) R w' → K (a.put op.dst (.slice xa n xc)) w') : op.wp Try.prog a W K Q := by
  by_cases hsome : (∃ b o n c, xv = .slice (some ⟨b, o, none⟩) n c) ∨ ∃ ad n c, v = .slice (some ad) n c
  · exact wp_append_mr s y ho hM xv N R n hs hy hN hsome hR hn hl h
  · subst hR hn
    obtain ⟨xa, xc, e, hh⟩ := hN
    subst e
    have hN0 : N = [] := by
      cases N with
      | nil => rfl
      | cons z k => obtain ⟨b, o, e, _⟩ := hh 0 z rfl; subst e; exact absurd (Or.inl ⟨_, _, _, _, rfl⟩) hsome
    subst hN0
    have hv : v = .slice none 0 0 ∧ M.length = 0 := by
      rcases hM.owns.2 with q | ⟨g, cap, cur, q1, _⟩
      · exact q
      · exact absurd (Or.inr ⟨_, _, _, q1⟩) hsome
    have hM0 : M = [] := List.length_eq_zero_iff.1 hv.2
    subst hM0
    obtain ⟨rfl, _⟩ := hv
    obtain ⟨ia, i1, i2, i3, i4⟩ := info_run
    have hap := rappend_none (P := Try.prog) (w := W) 22 op.type 24 ia Try.underlying22 i1 xa xc
    unfold Oper.wp execOp
    simp only [ho, resolve, invoke, builtin, Sem.run_bind, Sem.run_pure, Result.andThen_ok, List.map_toArray, List.map_cons, List.map_nil, hs, hy, List.length_nil, hap]
    exact h none 0 W (Nat.le_refl _) (by simpa using hM)
theorem wpList_append_mz {ops : Array Oper} {rest : List Oper} {o : Oper} {a : Act} {W : World} {Q : Exit → Act → World → Prop} (hgd : o.guard = none) (s y : Operand) (ho : o.op = .call { callee := .builtin .append, args := #[s, y], argTypes := #[22, 22] })
    {w0 : World} {B : Nat} {ts : List (Value × List Rn)} {v : Value} {M : List Rn} (hM : Mr w0 B ts v M W) (xv : Value) (N R : List Rn) (n : Nat) (hs : a.eval s = v) (hy : a.eval y = xv) (hN : RunsAt W xv N)
    (hR : M ++ N = R) (hn : R.length = n) (hl : n ≤ 1000000)
    (h : ∀ xa xc w', n ≤ xc → Mr w0 B ts (.slice xa n xc) R w' → wpList Try.prog ops Q rest (a.put o.dst (.slice xa n xc)) w') : wpList Try.prog ops Q (o :: rest) a W :=
  wpList_plain hgd fun _ hK => wp_append_mz s y ho hM xv N R n hs hy hN hR hn hl fun xa xc w' h1 h2 => hK _ _ (h xa xc w' h1 h2)
set_option maxRecDepth 100000 in
set_option maxHeartbeats 1000000 in
/-- slices.Grow of no slice: a row of one's own with nothing in it. -/
theorem grow_any (w : World) (n : Nat) (hn : n ≤ 1000000) :
    Calls Try.prog 35 #[.slice none 0 0, .int .i64 n] w fun e w' => ∃ a c, e = .returned (.slice a 0 c) ∧ w'.ownsRow w.heap.size 24 2 (.slice a 0 c) 0 [] ∧ Below w.heap.size w w' := by
  have h1 : ¬ ((n : Int) < 0) := by omega
  by_cases h0 : n = 0
  · subst h0
    go_enter Try.func35, Try.ntmps35
    go_wp2
    go_ret
    exact ⟨none, 0, rfl, World.ownsRow_nil _ _ _ _, Below.refl _ _⟩
  obtain ⟨ia, i1, i2, i3, i4⟩ := info_run
  have h4 : (n : Int) > 0 := by omega
  have hge := grownCap_ge w n 0 24
  have hle := grownCap_le_maxLen w n 0 24 (by simp only [maxLen]; omega)
  have hrz : ∀ ty, (Builtin.append_ #[22, 3] ty #[.slice none 0 0, .int .i64 n]).run Try.prog w = _ := fun ty => Lib.run_append_nil_zeros (P := Try.prog) w 22 3 ty 24 ia _ .i64 .i64 Try.underlying22 Try.underlying3 i1 i2 n (by omega) (by omega) (by omega) (by rw [i4]; omega)
  generalize grownCap w n 0 24 = G at *
  have HB : Hid (Below w.heap.size w w.drew) := (Below.refl _ _).drew
  have HF : Hid (∀ cur : Array Value, cur.size = G * 2 → (w.drew.alloc (.cells cur 24)).ownsRow w.heap.size 24 2 (.slice (some ⟨w.heap.size, 0, none⟩) 0 G) 0 []) := fun cur hc => World.ownsRow_made w.drew cur G (Nat.le_refl _) hle hc
  have HA : Hid (∀ cur : Array Value, Below w.heap.size w (w.drew.alloc (.cells cur 24))) := fun cur => HB.out.alloc (Nat.le_refl _) _
  have HC : Hid ((Builtin.zeroCells (Value.cells (.agg #[.int .i64 0, .int .i64 0])) n ++ Builtin.zeroCells (Value.cells (.agg #[.int .i64 0, .int .i64 0])) (G - n)).size = G * 2) := by
    show _ = _
    rw [Array.size_append, size_zeroCells, size_zeroCells]
    simp [Value.cells]
    omega
  generalize Builtin.zeroCells (Value.cells (.agg #[.int .i64 0, .int .i64 0])) n ++ Builtin.zeroCells (Value.cells (.agg #[.int .i64 0, .int .i64 0])) (G - n) = C at *
  have HG : Hid (0 ≤ G) := Nat.zero_le _
  have hG1 : (n : Int) ≤ (G : Int) := by omega
  have hG0 : (0 : Int) ≤ (G : Int) := by omega
  have hG2 : (G : Int) ≤ 9223372036854775807 := by simp only [maxLen] at hle; omega
  clear h0 hn hge hle i1 i2 i3 i4 HB
  go_enter Try.func35, Try.ntmps35
  go_wp2_with (first | (refine Lib.wpList_append_run _ rfl (.tmp 20) (.tmp 21) _ _ rfl _ _ rfl rfl _ _ (hrz _) ?_) | fail)
  go_ret
  exact ⟨_, _, rfl, HF.out C HC.out, HA.out C⟩
/-- Lists of runs beside one another. -/
def allR : List (Value × List Rn) → List Rn
  | [] => []
  | x :: l => x.2 ++ allR l
theorem allR_append : ∀ (l m : List (Value × List Rn)), allR (l ++ m) = allR l ++ allR m
  | [], m => rfl
  | x :: l, m => by simp [allR, allR_append l m]
theorem allR_take {l : List (Value × List Rn)} {m : Nat} {x : Value × List Rn} (h : l[m]? = some x) : allR (l.take (m + 1)) = allR (l.take m) ++ x.2 := by
  rw [List.take_add_one, h, allR_append]
  simp [allR]
theorem allR_le (l : List (Value × List Rn)) (m : Nat) : (allR (l.take m)).length ≤ (allR l).length := by
  have : allR l = allR (l.take m) ++ allR (l.drop m) := by rw [← allR_append, List.take_append_drop]
  rw [this, List.length_append]; omega
set_option maxRecDepth 100000 in
set_option maxHeartbeats 1000000 in
/-- slices.Concat of some lists of runs. -/
theorem concat_any {w : World} {b c : Nat} {ts : List (Value × List Rn)} (h : ∀ i v l, ts[i]? = some (v, l) → w.cell? ⟨b, i, none⟩ = some v ∧ RunsAt w v l) (hlt : ts.length ≤ 1000) (hl : (allR ts).length ≤ 1000000) :
    Calls Try.prog 27 #[.slice (some ⟨b, 0, none⟩) ts.length c] w fun e w' => ∃ a c, e = .returned (.slice a (allR ts).length c) ∧ w'.ownsRow w.heap.size 24 2 (.slice a (allR ts).length c) (allR ts).length (rsv (allR ts)) ∧ Below w.heap.size w w' := by
  have HC : Hid (∀ i v l, ts[i]? = some (v, l) → (∃ a q, v = .slice a l.length q) ∧ ∀ w', Below w.heap.size w w' → w'.cell? ⟨b, i, none⟩ = some v ∧ RunsAt w' v l) := fun i v l hi => by
    obtain ⟨h1, h2⟩ := h i v l hi
    obtain ⟨a, q, e, _⟩ := id h2
    exact ⟨⟨a, q, e⟩, fun w' hb => ⟨cell_stays h1 hb, h2.below hb⟩⟩
  have HMr : Hid (∀ v l, (v, l) ∈ ts → RunsAt w v l) := fun v l hm => by
    obtain ⟨i, hi⟩ := List.getElem?_of_mem hm
    exact (h i v l hi).2
  have HAl : Hid (∀ m, (allR (ts.take m)).length ≤ (allR ts).length) := allR_le ts
  clear h
  go_enter Try.func27, Try.ntmps27
  go_wp2
  go_loopw [3, 11] (fun sv iv wr => wr = w ∧ ∃ m : Nat, m ≤ ts.length ∧ iv = .int .i64 m ∧ sv = .int .i64 ((allR (ts.take m)).length)) (fun _ iv _ => ts.length - (intOf iv).toNat)
  case atStart => exact ⟨rfl, 0, Nat.zero_le _, rfl, rfl⟩
  case round =>
    obtain ⟨rfl, m, hm, rfl, rfl⟩ := hrel
    by_cases hm2 : m < ts.length
    · obtain ⟨⟨v, l⟩, hx⟩ : ∃ x, ts[m]? = some x := ⟨_, List.getElem?_eq_getElem hm2⟩
      obtain ⟨⟨a, q, rfl⟩, hk⟩ := HC.out m v l hx
      have c1 := (hk _ (Below.refl _ _)).1
      have hm3 : (m : Int) < (ts.length : Int) := by omega
      have hst : Hid ((allR (ts.take m)).length + l.length = (allR (ts.take (m + 1))).length) := by show _ = _; rw [allR_take hx, List.length_append]
      have hle := HAl.out (m + 1)
      have hwr : wrap64 (((allR (ts.take m)).length : Int) + (l.length : Int)) = ((allR (ts.take m)).length : Int) + (l.length : Int) := by have := hst.out; unfold wrap64; omega
      have hng : ¬ ((allR (ts.take m)).length : Int) + (l.length : Int) < 0 := by omega
      clear hx hk hle
      generalize (allR (ts.take m)).length = z at *
      go_wp2
      go_roundw
      case rel => exact ⟨by first | rfl | trivial, m + 1, by omega, by go_num, by rw [← hst.out]; go_num⟩
      case measure => simp [intOf]; omega
    · obtain rfl : m = ts.length := by omega
      have hm3 : ¬ ((ts.length : Nat) : Int) < (ts.length : Int) := by omega
      have hz : (allR (ts.take ts.length)).length = (allR ts).length := by rw [List.take_of_length_le (Nat.le_refl _)]
      rw [hz]
      have HG : Hid (Calls Try.prog 35 #[.slice none 0 0, .int .i64 (allR ts).length] wr fun e w' => ∃ a c, e = .returned (.slice a 0 c) ∧ w'.ownsRow wr.heap.size 24 2 (.slice a 0 c) 0 [] ∧ Below wr.heap.size wr w') := grow_any wr (allR ts).length hl
      clear hz
      go_wp2_with fail
      refine HG.out.mono ?_
      rintro e w1 ⟨ga, gc, rfl, ho, b1⟩
      have HM0 : Hid (Mr wr wr.heap.size ts (.slice ga 0 gc) [] w1) := ⟨b1, Nat.le_refl _, b1.size, fun v l hv => (oldR_of (HMr.out v l hv)).keep b1, ho⟩
      clear b1 ho HG
      go_wp2
      go_loopw [6, 27] (fun sv iv wy => ∃ m : Nat, m ≤ ts.length ∧ iv = .int .i64 m ∧ ∃ xa xc, sv = .slice xa (allR (ts.take m)).length xc ∧ Mr wr wr.heap.size ts (.slice xa (allR (ts.take m)).length xc) (allR (ts.take m)) wy) (fun _ iv _ => ts.length - (intOf iv).toNat)
      case atStart => exact ⟨0, Nat.zero_le _, rfl, ga, gc, rfl, HM0.out⟩
      case round =>
        obtain ⟨m, hm, rfl, xa, xc, rfl, hM⟩ := hrel
        clear HM0
        by_cases hm2 : m < ts.length
        · obtain ⟨⟨v, l⟩, hx⟩ : ∃ x, ts[m]? = some x := ⟨_, List.getElem?_eq_getElem hm2⟩
          obtain ⟨⟨a, q, rfl⟩, hk⟩ := HC.out m v l hx
          have c1 := (hk _ hM.below).1
          have hN := (hk _ hM.below).2
          have hm3 : (m : Int) < (ts.length : Int) := by omega
          have hst : Hid (allR (ts.take m) ++ l = allR (ts.take (m + 1))) := (allR_take hx).symm
          have hln : Hid ((allR (ts.take (m + 1))).length = (allR (ts.take (m + 1))).length) := rfl
          have hle : Hid _ := HAl.out (m + 1)
          have hM : Hid _ := hM
          have hN : Hid _ := hN
          clear hx hk
          generalize allR (ts.take m) = M at *
          generalize hz2 : allR (ts.take (m + 1)) = R at *
          have HZ2 : Hid (allR (ts.take (m + 1)) = R) := hz2
          clear hz2
          go_wp2_with (first | (refine wpList_append_mz rfl (.tmp 31) (.tmp 32) rfl hM.out _ l R R.length rfl rfl hN.out hst.out rfl (by have := hle.out; omega) ?_; intro ya yc w4 _ HM; have HM : Hid _ := HM; clear hM hN c1) | fail)
          go_roundw
          case rel => exact ⟨m + 1, by omega, by go_num, ya, yc, by rw [HZ2.out], by rw [HZ2.out]; exact HM.out⟩
          case measure => simp [intOf]; omega
        · obtain rfl : m = ts.length := by omega
          have hm3 : ¬ ((ts.length : Nat) : Int) < (ts.length : Int) := by omega
          have hz : allR (ts.take ts.length) = allR ts := by rw [List.take_of_length_le (Nat.le_refl _)]
          rw [hz] at hM
          rw [hz]
          have HM : Hid _ := hM
          clear hM hz
          go_wp2
          go_ret
          exact ⟨_, _, rfl, HM.out.owns, HM.out.below⟩
end Go.Proofs.Ytbnfhhjgalphgaa
