/- append of hashes, whoever is nil; slices.Grow of no slice, slices.Concat of lists of hashes, slices.Clone (layer 10). -/
import Derived.Test.YtnhfadjlajljlaaDoorW3
import Derived.Lib.AppendZeros
import Derived.Lib.SliceRun
namespace Go.Proofs.YtnhfadjlajljlaaDoor
open Go.RowKit

theorem happend_none {P : Program} {w : World} (t ty e : TypeId) (i : TypeInfo) (ht : P.underlying t = some (.slice e)) (hi : P.info? e = some i) (xa : Option Addr) (c' : Nat) :
    (Builtin.append_ #[t, t] ty #[.slice none 0 0, .slice xa 0 c']).run P w = .ok (.slice none 0 0) w := by
  cases xa <;> simp [Builtin.append_, run_underlying ht, sizeOf, typeInfo, hi, Builtin.lenOf, Builtin.firstCells, loadCells, loadCellsFrom]
theorem happend_nothing {P : Program} {w : World} (t ty e : TypeId) (i : TypeInfo) (ht : P.underlying t = some (.slice e)) (hi : P.info? e = some i) (ad : Addr) (n c c' : Nat) (hn : n ≤ c) :
    (Builtin.append_ #[t, t] ty #[.slice (some ad) n c, .slice none 0 c']).run P w = .ok (.slice (some ad) n c) w := by
  simp [Builtin.append_, run_underlying ht, sizeOf, typeInfo, hi, Builtin.lenOf, Builtin.firstCells, loadCells, hn, storeCells]
section
variable {w0 w : World} {B : Nat} {v : Value} {L M : List (List UInt8)}
/-- append of hashes to a list of one's own, whoever is nil: its row alone may have turned. -/
theorem wp_append_mq {o : Oper} {a : Act} {K : Act → World → Prop} {Q : Exit → Act → World → Prop} (s y : Operand) (ho : o.op = .call { callee := .builtin .append, args := #[s, y], argTypes := #[22, 22] })
    (hM : Mh w0 B v L w) (xv : Value) (hs : a.eval s = v) (hy : a.eval y = xv) (hN : HsAt w xv M) (R : List (List UInt8)) (n : Nat) (hR : L ++ M = R) (hn : R.length = n) (hl : n ≤ 100000)
    (h : ∀ xa xc w', n ≤ xc → Mh w0 B (.slice xa n xc) R w' → w.grownBy w' v.ownBlock → K (a.put o.dst (.slice xa n xc)) w') : o.wp Tryd.prog a w K Q := by
  subst hR hn
  obtain ⟨ia, z, i1, i2, i3, i4, i5⟩ := info_hash
  obtain ⟨xa, xc, rfl, -⟩ := id hN
  have h32 := hN.len
  rw [List.length_append] at *
  cases xa with
  | none =>
    have hN0 : M = [] := by
      cases M with
      | nil => rfl
      | cons z k => obtain ⟨_, b, o, e, _⟩ := hN.cells.2 0 z rfl; cases e
    subst hN0
    rcases hM.owns.2 with ⟨q1, q2⟩ | ⟨g, cap, cur, q1, q2, q3, q4, q5⟩
    · have hL0 : L = [] := List.length_eq_zero_iff.1 q2
      subst hL0 q1
      have hap := happend_none (P := Tryd.prog) (w := w) 22 o.type 30 ia Tryd.underlying22 i1 none xc
      unfold Oper.wp execOp
      simp only [ho, resolve, invoke, builtin, Sem.run_bind, Sem.run_pure, Result.andThen_ok, List.map_toArray, List.map_cons, List.map_nil, hs, hy, List.length_nil, hap]
      exact h none 0 w (Nat.le_refl _) (by simpa using hM) ⟨rfl, rfl, rfl, Nat.le_refl _, fun _ _ _ => rfl⟩
    · subst q1
      have hap := happend_nothing (P := Tryd.prog) (w := w) 22 o.type 30 ia Tryd.underlying22 i1 ⟨g, 0, none⟩ L.length cap xc q4
      unfold Oper.wp execOp
      simp only [ho, resolve, invoke, builtin, Sem.run_bind, Sem.run_pure, Result.andThen_ok, List.map_toArray, List.map_cons, List.map_nil, hs, hy, List.length_nil, hap]
      exact h _ cap w (by simpa using q4) (by simpa using hM) ⟨rfl, rfl, rfl, Nat.le_refl _, fun _ _ _ => rfl⟩
  | some ad =>
    by_cases hz : M.length = 0 ∧ v = .slice none 0 0
    · obtain ⟨z1, rfl⟩ := hz
      obtain rfl : M = [] := List.length_eq_zero_iff.1 z1
      have hL0 : L = [] := by
        rcases hM.owns.2 with ⟨_, q2⟩ | ⟨g, cap, cur, q1, _⟩
        · exact List.length_eq_zero_iff.1 q2
        · cases q1
      subst hL0
      have hap := happend_none (P := Tryd.prog) (w := w) 22 o.type 30 ia Tryd.underlying22 i1 (some ad) xc
      unfold Oper.wp execOp
      simp only [ho, resolve, invoke, builtin, Sem.run_bind, Sem.run_pure, Result.andThen_ok, List.map_toArray, List.map_cons, List.map_nil, hs, hy, List.length_nil, hap]
      exact h none 0 w (Nat.le_refl _) (by simpa using hM) ⟨rfl, rfl, rfl, Nat.le_refl _, fun _ _ _ => rfl⟩
    · refine wp_append_own w s y 22 ho B 30 ia z 32 32 Tryd.underlying22 i1 i2 i4 i5 i3 (by omega) v L.length (hsv L) hs hM.owns ad M.length xc (hsv M) hy (hsv_length h32) (fun j u hj => ?_) (hsv_one M) (by simp only [maxLen]; omega) (by omega) hM.size (fun v' w' r1 r2 _ => ?_)
      · have hjl := (List.getElem?_eq_some_iff.1 hj).1
        rw [hsv_length h32] at hjl
        obtain ⟨x, hx⟩ : ∃ x, M[j / 32]? = some x := ⟨_, List.getElem?_eq_getElem (by omega)⟩
        obtain ⟨hx32, b, off, e2, hr⟩ := hN.cells.2 (j / 32) x hx
        obtain rfl : ad = ⟨b, off, none⟩ := by simpa using e2
        obtain ⟨u', hu'⟩ : ∃ u', (hv x).toList[j % 32]? = some u' := ⟨_, List.getElem?_eq_getElem (by rw [Array.length_toList, hv_size, hx32]; omega)⟩
        have h1 := hsv_get h32 hx _ _ hu'
        rw [show j / 32 * 32 + j % 32 = j by omega, hj] at h1
        have h2 := hr w (Below.refl _ _) _ _ hu'
        rw [Addr.add_mid, show off + j = off + j / 32 * 32 + j % 32 by omega, h2, Option.some.inj h1]
      · have hM' : ∀ u, w'.ownsRow B 30 32 u (L.length + M.length) (hsv L ++ hsv M) → Mh w0 B u (L ++ M) w' := fun u r1 => by
          refine ⟨hM.below.grown r2 hM.size (fun j hj => (World.ownsRow.lt hM.owns j hj).1), hM.le, fun x hx => ?_, by rw [List.length_append, hsv_append]; exact r1⟩
          rcases List.mem_append.1 hx with hx | hx
          · exact hM.h32 x hx
          · exact h32 x hx
        rcases id r1.2 with ⟨q1, q2⟩ | ⟨g, cap, cur, rfl, _, _, q4, _⟩
        · rw [q1]
          rw [q1] at r1
          have e0 : (Value.slice none 0 0) = .slice none (L.length + M.length) 0 := by rw [q2]
          rw [e0] at r1 ⊢
          exact h _ 0 w' (by omega) (hM' _ r1) r2
        · exact h _ cap w' q4 (hM' _ r1) r2
theorem wpList_append_mq {ops : Array Oper} {rest : List Oper} {o : Oper} {a : Act} {Q : Exit → Act → World → Prop} (hgd : o.guard = none) (s y : Operand) (ho : o.op = .call { callee := .builtin .append, args := #[s, y], argTypes := #[22, 22] })
    (hM : Mh w0 B v L w) (xv : Value) (hs : a.eval s = v) (hy : a.eval y = xv) (hN : HsAt w xv M) (R : List (List UInt8)) (n : Nat) (hR : L ++ M = R) (hn : R.length = n) (hl : n ≤ 100000)
    (h : ∀ xa xc w', n ≤ xc → Mh w0 B (.slice xa n xc) R w' → w.grownBy w' v.ownBlock → wpList Tryd.prog ops Q rest (a.put o.dst (.slice xa n xc)) w') : wpList Tryd.prog ops Q (o :: rest) a w :=
  wpList_plain hgd fun _ hK => wp_append_mq s y ho hM xv hs hy hN R n hR hn hl fun xa xc w' h1 h2 h3 => hK _ _ (h xa xc w' h1 h2 h3)
end
set_option maxRecDepth 100000 in
set_option maxHeartbeats 1000000 in
/-- slices.Grow of no slice: a row of one's own with nothing in it. -/
theorem hgrow_any (w : World) (n : Nat) (hn : n ≤ 100000) :
    Calls Tryd.prog 51 #[.slice none 0 0, .int .i64 n] w fun e w' => ∃ a c, e = .returned (.slice a 0 c) ∧ Mh w w.heap.size (.slice a 0 c) [] w' := by
  have h1 : ¬ ((n : Int) < 0) := by omega
  by_cases h0 : n = 0
  · subst h0
    go_enter Tryd.func51, Tryd.ntmps51
    go_wp2
    go_ret
    exact ⟨none, 0, rfl, Mh.start w⟩
  obtain ⟨ia, z, i1, i2, i3, i4, i5⟩ := info_hash
  have h4 : (n : Int) > 0 := by omega
  have hge := grownCap_ge w n 0 30
  have hle := grownCap_le_maxLen w n 0 30 (by simp only [maxLen]; omega)
  have hrz : ∀ ty, (Builtin.append_ #[22, 3] ty #[.slice none 0 0, .int .i64 n]).run Tryd.prog w = _ := fun ty => Lib.run_append_nil_zeros (P := Tryd.prog) w 22 3 ty 30 ia _ .i64 .i64 Tryd.underlying22 Tryd.underlying3 i1 i2 n (by omega) (by omega) (by omega) (by rw [i5]; omega)
  generalize grownCap w n 0 30 = G at *
  have HB : Hid (Below w.heap.size w w.drew) := (Below.refl _ _).drew
  have HF : Hid (∀ cur : Array Value, cur.size = G * 32 → Mh w w.heap.size (.slice (some ⟨w.heap.size, 0, none⟩) 0 G) [] (w.drew.alloc (.cells cur 30))) := fun cur hc => ⟨HB.out.alloc (Nat.le_refl _) _, Nat.le_refl _, fun x hx => (by cases hx), World.ownsRow_made w.drew cur G (Nat.le_refl _) hle hc⟩
  have HC : Hid ((Builtin.zeroCells z.cells n ++ Builtin.zeroCells z.cells (G - n)).size = G * 32) := by
    show _ = _
    rw [Array.size_append, size_zeroCells, size_zeroCells, i3]
    omega
  generalize Builtin.zeroCells z.cells n ++ Builtin.zeroCells z.cells (G - n) = C at *
  have hG1 : (n : Int) ≤ (G : Int) := by omega
  have hG0 : (0 : Int) ≤ (G : Int) := by omega
  have hG2 : (G : Int) ≤ 9223372036854775807 := by simp only [maxLen] at hle; omega
  clear h0 hn hge hle i1 i2 i3 i4 i5 HB
  go_enter Tryd.func51, Tryd.ntmps51
  go_wp2_with (first | (refine Lib.wpList_append_run _ rfl (.tmp 20) (.tmp 21) _ _ rfl _ _ rfl rfl _ _ (hrz _) ?_) | fail)
  go_ret
  exact ⟨_, _, rfl, HF.out C HC.out⟩
/-- Lists of hashes beside one another. -/
def allH : List (Value × List (List UInt8)) → List (List UInt8)
  | [] => []
  | x :: l => x.2 ++ allH l
theorem allH_append : ∀ (l m : List (Value × List (List UInt8))), allH (l ++ m) = allH l ++ allH m
  | [], m => rfl
  | x :: l, m => by simp [allH, allH_append l m]
theorem allH_take {l : List (Value × List (List UInt8))} {m : Nat} {x : Value × List (List UInt8)} (h : l[m]? = some x) : allH (l.take (m + 1)) = allH (l.take m) ++ x.2 := by
  rw [List.take_add_one, h, allH_append]
  simp [allH]
theorem allH_le (l : List (Value × List (List UInt8))) (m : Nat) : (allH (l.take m)).length ≤ (allH l).length := by
  have : allH l = allH (l.take m) ++ allH (l.drop m) := by rw [← allH_append, List.take_append_drop]
  rw [this, List.length_append]; omega
set_option maxRecDepth 100000 in
set_option maxHeartbeats 1000000 in
/-- slices.Concat of some lists of hashes. -/
theorem hconcat_any {w : World} {b c : Nat} {ts : List (Value × List (List UInt8))} (h : ∀ i v l, ts[i]? = some (v, l) → w.cell? ⟨b, i, none⟩ = some v ∧ HsAt w v l) (hlt : ts.length ≤ 1000) (hl : (allH ts).length ≤ 100000) :
    Calls Tryd.prog 39 #[.slice (some ⟨b, 0, none⟩) ts.length c] w fun e w' => ∃ a c, e = .returned (.slice a (allH ts).length c) ∧ Mh w w.heap.size (.slice a (allH ts).length c) (allH ts) w' := by
  have HC : Hid (∀ i v l, ts[i]? = some (v, l) → (∃ a q, v = .slice a l.length q) ∧ ∀ w', Below w.heap.size w w' → w'.cell? ⟨b, i, none⟩ = some v ∧ HsAt w' v l) := fun i v l hi => by
    obtain ⟨h1, h2⟩ := h i v l hi
    obtain ⟨a, q, e, _⟩ := id h2
    exact ⟨⟨a, q, e⟩, fun w' hb => ⟨by rw [World.cell?_of_block (hb.block b (World.block_lt_of_cell? w _ h1))]; exact h1, h2.below hb⟩⟩
  have HAl : Hid (∀ m, (allH (ts.take m)).length ≤ (allH ts).length) := allH_le ts
  clear h
  go_enter Tryd.func39, Tryd.ntmps39
  go_wp2
  go_loopw [3, 11] (fun sv iv wr => wr = w ∧ ∃ m : Nat, m ≤ ts.length ∧ iv = .int .i64 m ∧ sv = .int .i64 ((allH (ts.take m)).length)) (fun _ iv _ => ts.length - (intOf iv).toNat)
  case atStart => exact ⟨rfl, 0, Nat.zero_le _, rfl, rfl⟩
  case round =>
    obtain ⟨rfl, m, hm, rfl, rfl⟩ := hrel
    by_cases hm2 : m < ts.length
    · obtain ⟨⟨v, l⟩, hx⟩ : ∃ x, ts[m]? = some x := ⟨_, List.getElem?_eq_getElem hm2⟩
      obtain ⟨⟨a, q, rfl⟩, hk⟩ := HC.out m v l hx
      have c1 := (hk _ (Below.refl _ _)).1
      have hm3 : (m : Int) < (ts.length : Int) := by omega
      have hst : Hid ((allH (ts.take m)).length + l.length = (allH (ts.take (m + 1))).length) := by show _ = _; rw [allH_take hx, List.length_append]
      have hle := HAl.out (m + 1)
      have hwr : wrap64 (((allH (ts.take m)).length : Int) + (l.length : Int)) = ((allH (ts.take m)).length : Int) + (l.length : Int) := by have := hst.out; unfold wrap64; omega
      have hng : ¬ ((allH (ts.take m)).length : Int) + (l.length : Int) < 0 := by omega
      clear hx hk hle
      generalize (allH (ts.take m)).length = z at *
      go_wp2
      go_roundw
      case rel => exact ⟨by first | rfl | trivial, m + 1, by omega, by go_num, by rw [← hst.out]; go_num⟩
      case measure => simp [intOf]; omega
    · obtain rfl : m = ts.length := by omega
      have hm3 : ¬ ((ts.length : Nat) : Int) < (ts.length : Int) := by omega
      have hz : (allH (ts.take ts.length)).length = (allH ts).length := by rw [List.take_of_length_le (Nat.le_refl _)]
      rw [hz]
      have HG : Hid (Calls Tryd.prog 51 #[.slice none 0 0, .int .i64 (allH ts).length] wr fun e w' => ∃ a c, e = .returned (.slice a 0 c) ∧ Mh wr wr.heap.size (.slice a 0 c) [] w') := hgrow_any wr (allH ts).length hl
      clear hz
      go_wp2_with fail
      refine HG.out.mono ?_
      rintro e w1 ⟨ga, gc, rfl, ho⟩
      have HM0 : Hid (Mh wr wr.heap.size (.slice ga 0 gc) [] w1) := ho
      clear ho HG
      go_wp2
      go_loopw [6, 27] (fun sv iv wy => ∃ m : Nat, m ≤ ts.length ∧ iv = .int .i64 m ∧ ∃ xa xc, sv = .slice xa (allH (ts.take m)).length xc ∧ Mh wr wr.heap.size (.slice xa (allH (ts.take m)).length xc) (allH (ts.take m)) wy) (fun _ iv _ => ts.length - (intOf iv).toNat)
      case atStart => exact ⟨0, Nat.zero_le _, rfl, ga, gc, rfl, HM0.out⟩
      case round =>
        obtain ⟨m, hm, rfl, xa, xc, rfl, hM⟩ := hrel
        clear HM0
        by_cases hm2 : m < ts.length
        · obtain ⟨⟨v, l⟩, hx⟩ : ∃ x, ts[m]? = some x := ⟨_, List.getElem?_eq_getElem hm2⟩
          obtain ⟨⟨a, q, rfl⟩, hk⟩ := HC.out m v l hx
          have c1 := (hk _ hM.below).1
          have hN := (hk _ hM.below).2
          have hm3 : (m : Int) < (ts.length : Int) := by omega
          have hst : Hid (allH (ts.take m) ++ l = allH (ts.take (m + 1))) := (allH_take hx).symm
          have hle : Hid ((allH (ts.take (m + 1))).length ≤ (allH ts).length) := HAl.out (m + 1)
          have hM : Hid _ := hM
          have hN : Hid (HsAt _ (.slice a l.length q) l) := hN
          clear hx hk
          generalize allH (ts.take m) = M at *
          generalize hz2 : allH (ts.take (m + 1)) = R at *
          have HZ2 : Hid (allH (ts.take (m + 1)) = R) := hz2
          clear hz2
          go_wp2_with (first | (refine wpList_append_mq rfl (.tmp 31) (.tmp 32) rfl hM.out _ rfl rfl hN.out R R.length hst.out rfl (by have := hle.out; omega) ?_; intro ya yc w4 _ HM _; have HM : Hid _ := HM; clear hM hN c1) | fail)
          go_roundw
          case rel => exact ⟨m + 1, by omega, by go_num, ya, yc, by rw [HZ2.out], by rw [HZ2.out]; exact HM.out⟩
          case measure => simp [intOf]; omega
        · obtain rfl : m = ts.length := by omega
          have hm3 : ¬ ((ts.length : Nat) : Int) < (ts.length : Int) := by omega
          have hz : allH (ts.take ts.length) = allH ts := by rw [List.take_of_length_le (Nat.le_refl _)]
          rw [hz] at hM
          rw [hz]
          have HM : Hid _ := hM
          clear hM hz
          go_wp2
          go_ret
          exact ⟨_, _, rfl, HM.out⟩
theorem nil_hs (a : Option Addr) (n c : Nat) (w : World) : (binOp .eql 22 (.slice a n c) (.slice none 0 0)).run Tryd.prog w = .ok (.bool a.isNone) w := by
  cases a <;> kernel_rfl
set_option maxRecDepth 100000 in
/-- slices.Clone of hashes. -/
theorem hclone_any {w : World} {v : Value} {L : List (List UInt8)} (h : HsAt w v L) (hl : L.length ≤ 100000) :
    Calls Tryd.prog 25 #[v] w fun e w' => ∃ a c, e = .returned (.slice a L.length c) ∧ Mh w w.heap.size (.slice a L.length c) L w' := by
  obtain ⟨a, c, rfl, -⟩ := id h
  cases a with
  | none =>
    have hN0 : L = [] := by
      cases L with
      | nil => rfl
      | cons z k => obtain ⟨_, b, o, e, _⟩ := h.cells.2 0 z rfl; cases e
    subst hN0
    have HM : Hid (Mh w w.heap.size (.slice none 0 0) [] w) := Mh.start w
    clear h
    have hq := nil_hs none 0 c
    simp only [Option.isNone_none] at hq
    go_enter Tryd.func25, Tryd.ntmps25
    go_wp2
    go_ret
    exact ⟨_, _, rfl, HM.out⟩
  | some ad =>
    have HN : Hid (HsAt (w.alloc (.cells #[] 30)) (.slice (some ad) L.length c) L) := h.below ((Below.refl _ _).alloc (Nat.le_refl _) _)
    have HM : Hid (Mh w w.heap.size (.slice (some ⟨w.heap.size, 0, none⟩) 0 0) [] (w.alloc (.cells #[] 30))) := ⟨(Below.refl _ _).alloc (Nat.le_refl _) _, Nat.le_refl _, fun x hx => (by cases hx), World.ownsRow_made w #[] 0 (Nat.le_refl _) (by simp [maxLen]) (by simp)⟩
    have hq := nil_hs (some ad) L.length c
    simp only [Option.isNone_some] at hq
    clear h
    go_enter Tryd.func25, Tryd.ntmps25
    go_wp2_with (refine wpList_append_mq rfl _ _ rfl HM.out _ rfl rfl HN.out L L.length (by simp) rfl hl ?_; intro ya yc w4 _ HR _; have HR : Hid (Mh w w.heap.size (.slice ya L.length yc) L w4) := HR)
    go_ret
    exact ⟨_, _, rfl, HR.out⟩
end Go.Proofs.YtnhfadjlajljlaaDoor
