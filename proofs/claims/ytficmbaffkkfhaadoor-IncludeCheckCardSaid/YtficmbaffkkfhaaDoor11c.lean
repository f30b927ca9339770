/- The proof of a leaf (layer 11). -/
import Derived.Test.YtficmbaffkkfhaaDoor11b
import Derived.Test.YtficmbaffkkfhaaDoorW3
import Derived.Test.YtficmbaffkkfhaaDoorW7
import Derived.Test.YtficmbaffkkfhaaDoorW9
import Derived.Test.YtficmbaffkkfhaaDoor11r
namespace Go.Proofs.YtficmbaffkkfhaaDoor
open Go.RowKit Go.Shelf
attribute [local go_sem] Oper.semAt_some

/-- What a round keeps. -/
structure Rn (B n : Nat) (W W' : World) : Prop where
  k : KeepsFrom B W W'
  p : KeepP W W'
  b : Below n W W'
section
variable {B n : Nat} {W W' Z : World}
theorem Rn.t (h : Rn B n W W') (g : Rn B n W' Z) : Rn B n W Z := ⟨⟨Nat.le_trans h.k.size g.k.size, fun k o hk h0 ho => g.k.same k o hk (h.k.same k o hk h0 ho) ho⟩, h.p.t g.p, h.b.trans g.b⟩
theorem Rn.new (h : Below W.heap.size W W') (hn : n ≤ W.heap.size) : Rn B n W W' := ⟨⟨h.size, fun k _ _ h0 _ => (h.block k (Array.getElem?_eq_some_iff.1 h0).1).trans h0⟩, .new h, h.mono hn⟩
/-- One block of cells, of another type, is turned. -/
theorem Rn.turn {b : Nat} {C : Array Value} {ty : TypeId} {q : Nat × Nat} (h : W.grownBy W' (some b)) (hb : W.heap[b]? = some (.cells C ty q)) (hty : ty ≠ 55) (hn : n ≤ b) : Rn B n W W' := by
  refine ⟨⟨h.size, fun k o _ h0 ho => ?_⟩, ⟨h.size, fun k C q e => ?_⟩, ⟨h.os, h.tape, h.output, h.size, fun k hk => ?_⟩⟩
  · refine (h.block k (Array.getElem?_eq_some_iff.1 h0).1 (fun e => ?_)).trans h0
    obtain rfl := Option.some.inj e
    rw [hb] at h0
    cases h0
    cases ho
  · refine h.block k (Array.getElem?_eq_some_iff.1 e).1 (fun e1 => ?_)
    obtain rfl := Option.some.inj e1
    rw [hb] at e
    cases e
    exact hty rfl
  · have hbl := (Array.getElem?_eq_some_iff.1 hb).1
    exact h.block k (by omega) (fun e1 => by have := Option.some.inj e1; omega)
theorem Rn.row {e : TypeId} {z k : Nat} {v : Value} {xs : List Value} (hr : W.ownsRow n e z v k xs) (hn : n ≤ W.heap.size) (h : W.grownBy W' v.ownBlock) (hty : e ≠ 55) : Rn B n W W' := by
  rcases hr.2 with ⟨rfl, -⟩ | ⟨g, cap, cur, rfl, q2, q3, -⟩
  · exact .new ⟨h.os, h.tape, h.output, h.size, fun k hk => h.block k hk (fun e => by cases e)⟩ hn
  · exact .turn h q3 hty q2
end
/-- A list of hashes of one's own in a box. -/
def HsBox (B b : Nat) (L : List (List UInt8)) (W : World) : Prop := ∃ v, Boxed W b 22 v ∧ W.ownsRow B 23 32 v L.length (hsv L)
theorem HsBox.own {α : Type} {B b D : Nat} (f : List α → List (List UInt8)) : OwnFrom D (fun pre W => HsBox B b (f pre) W) := by
  rintro pre W W' row ⟨v, h1, h2⟩ hg hr
  have hne : ∀ k C t q, W.heap[k]? = some (.cells C t q) → some k ≠ row := fun k C t q e e1 => by
    obtain ⟨o, ho, hc⟩ := (hr k e1.symm).2
    rw [e] at ho
    cases ho
    cases hc
  refine ⟨v, h1.kept hg (hne _ _ _ _ h1), h2.kept hg ?_⟩
  rcases h2.2 with ⟨rfl, -⟩ | ⟨g, cap, cur, rfl, q2, q3, -⟩
  · exact .inl rfl
  · exact .inr (fun e => hne g _ _ _ q3 (show some g = row from e))
theorem HsBox.next {B b : Nat} {L : List (List UInt8)} {W W' : World} (h : HsBox B b L W) (hb : Below W.heap.size W W') : HsBox B b L W' := by
  obtain ⟨v, h1, h2⟩ := h
  refine ⟨v, h1.kept (grown_new hb) (by simp), h2.kept (grown_new hb) ?_⟩
  rcases h2.2 with ⟨rfl, -⟩ | ⟨g, cap, cur, rfl, -⟩
  · exact .inl rfl
  · exact .inr (fun e => by cases e)
theorem hsv_snoc (L : List (List UInt8)) (x : List UInt8) : hsv (L ++ [x]) = hsv L ++ (hv x).toList := by
  rw [hsv_append]
  congr 1
  simp [hsv]
theorem own_at {w : World} {B : Nat} {e : TypeId} {z : Nat} {v : Value} {n : Nat} {xs : List Value} (h : w.ownsRow B e z v n xs) {k : Nat} (hk : v.ownBlock = some k) : B ≤ k ∧ ∃ cur, w.heap[k]? = some (.cells cur e (0, 0)) := by
  rcases h.2 with ⟨q1, -⟩ | ⟨g, cap, cur, q1, q2, q3, -⟩
  · rw [q1] at hk; cases hk
  · rw [q1] at hk
    obtain rfl : g = k := Option.some.inj hk
    exact ⟨q2, cur, q3⟩
/-- append of one hash, just built, to a list of one's own in a box; the box is set behind it. -/
theorem wp_append_box {o : Oper} {a : Act} {W W1 : World} {K : Act → World → Prop} {Q : Exit → Act → World → Prop} (s y : Operand) (ho : o.op = .call { callee := .builtin .append, args := #[s, y], argTypes := #[22, 22] })
    {B b g k : Nat} {v : Value} {L : List (List UInt8)} (x : List UInt8) (hx : x.length = 32) (hk : L.length = k) (hL : k ≤ 100000) (hW1 : W.alloc (.cells (hv x) 23) = W1) (hg : W.heap.size = g) (hbox : Boxed W b 22 v) (hown : W.ownsRow B 23 32 v L.length (hsv L)) (hB : B ≤ W.heap.size) (hBb : B ≤ b)
    (hs : a.eval s = v) (hy : a.eval y = .slice (some ⟨g, 0, none⟩) 1 1)
    (h : ∀ xa xc w1, Boxed w1 b 22 v → HsBox B b (L ++ [x]) (w1.setCell ⟨b, 0, none⟩ (.slice xa (k + 1) xc)) → (∀ D, Rn D B W (w1.setCell ⟨b, 0, none⟩ (.slice xa (k + 1) xc))) → (∀ (j : Nat) (C : Array Value) (t : TypeId) (q : Nat × Nat), W.heap[j]? = some (.cells C t q) → t ≠ 23 → w1.heap[j]? = W.heap[j]?) → K (a.put o.dst (.slice xa (k + 1) xc)) w1) :
    o.wp Tryd.prog a W1 K Q := by
  subst hW1 hg hk
  obtain ⟨ia, z, i1, i2, i3, i4, i5⟩ := info_hash
  have hxs : (hv x).size = 32 := by rw [hv_size, hx]
  have hg := heap_alloc_last W (.cells (hv x) 23)
  have hB1 : B ≤ (W.alloc (.cells (hv x) 23)).heap.size := by rw [World.size_alloc]; omega
  have hb1 : Below W.heap.size W (W.alloc (.cells (hv x) 23)) := (Below.refl _ _).alloc (Nat.le_refl _) _
  have hown1 : (W.alloc (.cells (hv x) 23)).ownsRow B 23 32 v L.length (hsv L) := hown.alloc _
  refine wp_append_own _ s y 22 ho B 23 ia z 32 32 Tryd.underlying22 i1 i2 i4 i5 i3 (by omega) v L.length (hsv L) hs hown1 ⟨W.heap.size, 0, none⟩ 1 1 (hv x).toList hy (by rw [Array.length_toList, hxs]) (fun j u hj => ?_) (fun u hu => ?_) (by simp only [maxLen]; omega) (by omega) hB1 (fun v' w1 r1 r2 _ => ?_)
  · rw [Addr.add_mid, cell_of_row _ _ _ _ _ _ hg, Nat.zero_add, ← Array.getElem?_toList]
    exact hj
  · have h1 := hv_one x
    rw [Array.all_eq_true_iff_forall_mem] at h1
    exact h1 u (Array.mem_toList_iff.1 hu)
  · obtain ⟨g', cap', rfl⟩ := ownsRow_succ r1
    obtain ⟨h1, h2, h3, h4, h5⟩ := Boxed.appended hbox (by decide) hown hB hBb r1 r2
    rw [← hsv_snoc] at r1 h3
    have hl : (L ++ [x]).length = L.length + 1 := by rw [List.length_append, List.length_singleton]
    refine h _ _ w1 h1 ⟨_, h2, by rw [hl]; exact h3⟩ (fun D => ?_) (fun j C t q e ht => ?_)
    · refine ⟨h4.from _, ?_, h5⟩
      have p1 : Rn D B W (W.alloc (.cells (hv x) 23)) := .new hb1 hB
      have p2 : Rn D B (W.alloc (.cells (hv x) 23)) w1 := .row hown1 hB1 r2 (by decide)
      have p3 : Rn D B w1 (w1.setCell ⟨b, 0, none⟩ (.slice (some ⟨g', 0, none⟩) (L.length + 1) cap')) := .turn (grownBy_setCell' w1 b _) h1 (by decide) hBb
      exact (p1.t (p2.t p3)).p
    · have hj := (Array.getElem?_eq_some_iff.1 e).1
      have e1 := (hb1.block j hj).trans e
      refine (r2.block j (Array.getElem?_eq_some_iff.1 e1).1 (fun e2 => ?_)).trans (hb1.block j hj)
      obtain ⟨-, cur, e3⟩ := own_at hown1 e2.symm
      rw [e1] at e3
      cases e3
      exact ht rfl
theorem isplace_any (i m : Int) (w : World) : Calls Tryd.prog 21 #[.int .i64 i, .int .i64 m] w fun e w' => e = .returned (.bool (decide (0 ≤ i ∧ i < m))) ∧ w' = w := by
  by_cases h1 : i ≥ 0
  · by_cases h2 : i < m
    · have h3 : decide (0 ≤ i ∧ i < m) = true := by rw [decide_eq_true_iff]; exact ⟨h1, h2⟩
      rw [h3]
      go_enter Tryd.func21, Tryd.ntmps21
      go_wp2
      go_ret
      exact ⟨rfl, rfl⟩
    · have h3 : decide (0 ≤ i ∧ i < m) = false := by rw [decide_eq_false_iff_not]; exact fun h => h2 h.2
      rw [h3]
      go_enter Tryd.func21, Tryd.ntmps21
      go_wp2
      go_ret
      exact ⟨rfl, rfl⟩
  · have h3 : decide (0 ≤ i ∧ i < m) = false := by rw [decide_eq_false_iff_not]; exact fun h => h1 h.1
    rw [h3]
    go_enter Tryd.func21, Tryd.ntmps21
    go_wp2
    go_ret
    exact ⟨rfl, rfl⟩
theorem prove_no {w : World} {a : Option Addr} {m c : Nat} (i : Int) (hi : ¬ (0 ≤ i ∧ i < (m : Int))) : Calls Tryd.prog 9 #[.slice a m c, .int .i64 i] w fun e w' => e = .returned (.tuple #[.slice none 0 0, .int .i64 2]) ∧ Below w.heap.size w w' := by
  have HP : Hid (∀ W, Calls Tryd.prog 21 #[.int .i64 i, .int .i64 m] W fun e w' => e = .returned (.bool false) ∧ w' = W) := fun W => by
    have := isplace_any i m W
    rwa [decide_eq_false hi] at this
  have HB : Hid (∀ o, Below w.heap.size w (w.alloc o)) := fun o => (Below.refl _ _).alloc (Nat.le_refl _) _
  clear hi
  go_enter Tryd.func9, Tryd.ntmps9
  go_wp2_with fail
  refine (HP.out _).mono ?_
  rintro e w' ⟨rfl, rfl⟩
  clear HP
  go_wp2
  go_ret2
  exact ⟨rfl, HB.out _⟩
/-- A part of a list. -/
theorem HsAt.cut {w : World} {b o n c : Nat} {L : List (List UInt8)} (h : HsAt w (.slice (some ⟨b, o, none⟩) n c) L) (s e : Nat) (he : e ≤ n) (hs : s ≤ e) (hc : n ≤ c) : HsAt w (.slice (if c = s then some ⟨b, o, none⟩ else some ⟨b, o + s * 32, none⟩) (e - s) (c - s)) ((L.drop s).take (e - s)) :=
  (h.rest s (by omega) hc).take (e - s) (by omega)
/-- A round's own box. -/
def AxP (B : Nat) (C : Array Value) (mk : Value → Act) (a' : Act) (W : World) : Prop := ∃ g, (W.heap[g]? = some (.cells C 55 (0, 0)) ∧ B ≤ g) ∧ a' = mk (.pointer (some ⟨g, 0, none⟩))
theorem axP_own {B B' : Nat} {C : Array Value} {mk : Value → Act} {a' : Act} : OwnFrom B' (fun (_ : Unit) W => AxP B C mk a' W) := fun _ X Y row hs hg hr => by
  obtain ⟨g, ⟨h1, h2⟩, h3⟩ := hs
  refine ⟨g, ⟨(hg.block _ (Array.getElem?_eq_some_iff.1 h1).1 (fun e => ?_)).trans h1, h2⟩, h3⟩
  obtain ⟨o, ho, hc⟩ := (hr _ e.symm).2
  rw [h1] at ho
  cases ho
  cases hc
theorem KeepP.b {B : Nat} (W : World) (l : Nat) (o o' : Obj) (_ : B ≤ l) (h : W.heap[l]? = some o) (h1 : o.isCells = false) (_ : o.isWalk = false) : KeepP W (W.putObj l o') := by
  refine ⟨by simp [World.putObj], fun k C q e => World.putObj_heap_other fun e1 => ?_⟩
  subst e1
  rw [h] at e
  cases e
  cases h1
theorem ptH_32 {L : List (List UInt8)} (h : ∀ x ∈ L, x.length = 32) (p : Nat × Nat) : (ptH L p).length = 32 := rootH_32 fun x hx => h x (List.mem_of_mem_drop (List.mem_of_mem_take hx))
set_option maxRecDepth 100000 in
set_option maxHeartbeats 4000000 in
set_option linter.unusedSimpArgs false in
set_option linter.unusedVariables false in
theorem prove_wide (n : Nat) (hn : 5 ≤ n) {w : World} {a : Option Addr} {c : Nat} {L : List (List UInt8)} (i : Nat) (hi : i < L.length) (hK : TabL w) (hL : HsAt w (.slice a L.length c) L) (hc : L.length ≤ c) (hl : L.length ≤ 100000) :
    CallsIn Fence.wide n Tryd.prog 9 #[.slice a L.length c, .int .i64 (i : Int)] w fun e w' => ∃ a c, e = .returned (.tuple #[.slice a (prH L i).length c, .int .i64 0]) ∧ Mh w w.heap.size (.slice a (prH L i).length c) (prH L i) w' := by
  obtain ⟨m, hm⟩ : ∃ m, L.length = m := ⟨_, rfl⟩
  have HP : Hid (∀ W, CallsIn Fence.wide (n - 1) Tryd.prog 21 #[.int .i64 (i : Int), .int .i64 (m : Int)] W fun e w' => e = .returned (.bool true) ∧ w' = W) := fun W => by
    have := isplace_any (i : Int) (m : Int) W
    rw [decide_eq_true (by omega)] at this
    exact callsIn_wide.2 this
  obtain ⟨x0, hx0⟩ : ∃ x, L[i]? = some x := ⟨_, List.getElem?_eq_getElem hi⟩
  obtain ⟨-, b1, o1, rfl, -⟩ := hL.cells.2 i x0 hx0
  obtain ⟨w4, hw4⟩ : ∃ w4, (((w.alloc (.cells #[.slice (some ⟨b1, o1, none⟩) m c] 22)).alloc (.cells #[.slice none 0 0] 22)).alloc (.cells #[.int .i64 (i : Int)] 3)).alloc (.cells #[.int .i64 (m : Int)] 3) = w4 := ⟨_, rfl⟩
  have hs4 : w4.heap.size = w.heap.size + 4 := by rw [← hw4]; simp
  have b4 : Below w.heap.size w w4 := by
    rw [← hw4]
    exact ((((Below.refl _ _).alloc (Nat.le_refl _) _).alloc (by simp) _).alloc (by simp; omega) _).alloc (by simp; omega) _
  have g0 : Boxed w4 w.heap.size 22 (.slice (some ⟨b1, o1, none⟩) m c) := by
    rw [← hw4]
    exact (((Boxed.new w _ _).alloc _).alloc _).alloc _
  have g1 : Boxed w4 (w.heap.size + 1) 22 (.slice none 0 0) := by
    rw [← hw4]
    have := (((Boxed.new (w.alloc (.cells #[.slice (some ⟨b1, o1, none⟩) m c] 22)) 22 (.slice none 0 0))).alloc (.cells #[.int .i64 (i : Int)] 3)).alloc (.cells #[.int .i64 (m : Int)] 3)
    rwa [World.size_alloc] at this
  have g2 : Boxed w4 (w.heap.size + 1 + 1) 3 (.int .i64 (i : Int)) := by
    rw [← hw4]
    have := (Boxed.new ((w.alloc (.cells #[.slice (some ⟨b1, o1, none⟩) m c] 22)).alloc (.cells #[.slice none 0 0] 22)) 3 (.int .i64 (i : Int))).alloc (.cells #[.int .i64 (m : Int)] 3)
    rwa [World.size_alloc, World.size_alloc] at this
  have g3 : Boxed w4 (w.heap.size + 1 + 1 + 1) 3 (.int .i64 (m : Int)) := by
    rw [← hw4]
    have := Boxed.new (((w.alloc (.cells #[.slice (some ⟨b1, o1, none⟩) m c] 22)).alloc (.cells #[.slice none 0 0] 22)).alloc (.cells #[.int .i64 (i : Int)] 3)) 3 (.int .i64 (m : Int))
    rwa [World.size_alloc, World.size_alloc, World.size_alloc] at this
  have HSTOP := beside_stops (n - 1) (w.heap.size + 1 + 1) (w.heap.size + 1 + 1 + 1) i m w4 (by omega) (by omega) g2 g3
  have HW4 : Hid _ := hw4
  have HLW : Hid (∀ W, Below w.heap.size w W → HsAt W (.slice (some ⟨b1, o1, none⟩) m c) L ∧ TabL W) := fun W hW => ⟨by rw [← hm]; exact hL.below hW, hK.below hW hK.lt⟩
  have HM : Hid (L.length = m ∧ m ≤ c ∧ m ≤ 100000 ∧ i < m ∧ (∀ x ∈ L, x.length = 32)) := ⟨hm, by omega, by omega, by omega, hL.len⟩
  have HPR : Hid (∀ ys : List (Pt m), ys.map (·.1) = bes i 0 m → ys.map (fun p => ptH L p.1) = prH L i) := fun ys h => by
    rw [← bes_all L, hm, ← h, List.map_map]; rfl
  have HG : Hid (Boxed w4 w.heap.size 22 (.slice (some ⟨b1, o1, none⟩) m c) ∧ Boxed w4 (w.heap.size + 1) 22 (.slice none 0 0) ∧ Below w.heap.size w w4 ∧ w4.heap.size = w.heap.size + 4) := ⟨g0, g1, b4, hs4⟩
  rw [hm]
  refine callsIn_of_wp_marks Tryd.func9 rfl trivial ?_ rfl
  simp only [Tryd.ntmps9, List.size_toArray, List.length_cons, List.length_nil, Nat.reduceAdd, Nat.reduceSub, Array.replicate_succ, Array.replicate_zero, List.push_toArray, List.append_toArray, List.nil_append, List.cons_append]
  clear hi hL hK hc hl hx0 hm hw4 hs4 b4 g0 g1 g2 g3
  gi_wp2_with fail
  refine ⟨trivial, (fun h => nomatch h), ?_⟩
  refine (HP.out _).mono ?_
  rintro e w' ⟨rfl, rfl⟩
  clear HP
  gi_wp2_with fail
  refine ⟨trivial, (fun h => nomatch h), ?_⟩
  refine (beside_in _ _ _ _).mono ?_
  rintro e w' ⟨rfl, rfl⟩
  gi_wp2_with fail
  rw [HW4.out]
  clear HW4
  refine wpIn_rangeFunc_ownH rfl (by omega) (gf := 33) (lb := #[.pointer (some ⟨w.heap.size + 1 + 1, 0, none⟩), .pointer (some ⟨w.heap.size + 1 + 1 + 1, 0, none⟩)]) rfl trivial (enters_of Tryd.func33 (by kernel_rfl) rfl)
    HSTOP KeepP.t KeepP.b (Below.refl _ _) (fun _ => rfl)
    (fun pre W => HsBox w.heap.size (w.heap.size + 1) (pre.map fun p => ptH L p.1) W ∧ Boxed W w.heap.size 22 (.slice (some ⟨b1, o1, none⟩) m c) ∧ w4.heap.size ≤ W.heap.size ∧ Below w.heap.size w W)
    (fun _ _ _ => False)
    (OwnFrom.and (HsBox.own _) (OwnFrom.and (fun s A B row hs hg hr => hs.kept hg (fun e => by have := (hr _ e.symm).1; have := HG.out.2.2.2; omega)) (OwnFrom.and (fun s A B row hs hg hr => Nat.le_trans hs hg.size) (ownFrom_below (Nat.le_refl _) (by have := HG.out.2.2.2; omega)))))
    (fun _ _ _ _ _ hs _ _ => hs)
    ⟨⟨_, HG.out.2.1, World.ownsRow_nil _ _ _ _⟩, HG.out.1, Nat.le_refl _, HG.out.2.2.1⟩
    (fun x => AxP w4.heap.size (ptC x.1.1 x.1.2) (fun q => { tmps := #[.slice (some ⟨b1, o1, none⟩) m c, .int .i64 (i : Int), .pointer (some ⟨w.heap.size, 0, none⟩), undef, .slice none 0 0, .int .i64 0, .pointer (some ⟨w.heap.size + 1, 0, none⟩), q, .int .i64 (i : Int), .slice (some ⟨b1, o1, none⟩) m c, .int .i64 (m : Int), .bool true, .bool false, .int .i64 (i : Int), .slice (some ⟨b1, o1, none⟩) m c, .int .i64 (m : Int), .func (.func 33) #[] #[.pointer (some ⟨w.heap.size + 1 + 1, 0, none⟩), .pointer (some ⟨w.heap.size + 1 + 1 + 1, 0, none⟩)], .agg (ptC x.1.1 x.1.2), undef, undef, undef, undef, undef, undef, undef, undef, undef, undef, undef], defers := [] }))
    (fun _ _ => axP_own) ?assign ?body ?done ?stop
  case assign =>
    rintro l pre x W K ⟨h1, h2, h3, h4⟩ hK
    have HI : Hid (HsBox w.heap.size (w.heap.size + 1) (pre.map fun p => ptH L p.1) W ∧ Boxed W w.heap.size 22 (.slice (some ⟨b1, o1, none⟩) m c) ∧ w4.heap.size ≤ W.heap.size ∧ Below w.heap.size w W) := ⟨h1, h2, h3, h4⟩
    dsimp only [ptV, ptC] at hK ⊢
    clear h1 h2 h3 h4
    gi_wp2_with fail
    have hb : Below W.heap.size W (W.alloc (.cells #[.int .i64 (x.1.1 : Int), .int .i64 (x.1.2 : Int)] 55)) := (Below.refl _ _).alloc (Nat.le_refl _) _
    have hr : Rn w4.heap.size w.heap.size W _ := .new hb HI.out.2.2.2.size
    exact hK _ _ hr.k hr.p ⟨HI.out.1.next hb, HI.out.2.1.alloc _, Nat.le_trans HI.out.2.2.1 hb.size, HI.out.2.2.2.trans hr.b⟩ ⟨W.heap.size, ⟨heap_alloc_last W _, HI.out.2.2.1⟩, rfl⟩
  case body =>
    rintro l pre x a' W hl hr ⟨⟨v, hbv, hrow⟩, h2, h3, h4⟩ ⟨g, ⟨hg1, hg2⟩, rfl⟩ hlt
    obtain ⟨hse, hem⟩ := x.2
    have hZ : (pre ++ [x]).map (fun p => ptH L p.1) = pre.map (fun p => ptH L p.1) ++ [ptH L x.1] := by rw [List.map_append]; rfl
    generalize x.1 = xx at *
    obtain ⟨s, e⟩ := xx
    dsimp only at hse hem
    dsimp only [ptC] at hg1 ⊢
    have c0 : W.cell? ⟨g, 0, none⟩ = some (.int .i64 (s : Int)) := by rw [cell_of_row _ _ _ _ _ _ hg1]; rfl
    have c1 : W.cell? ⟨g, 1, none⟩ = some (.int .i64 (e : Int)) := by rw [cell_of_row _ _ _ _ _ _ hg1]; rfl
    have hvc := hbv.cell
    have h2c := h2.cell
    have k0 : (0 : Int) ≤ (s : Int) := by omega
    have k1 : (s : Int) ≤ (e : Int) := by omega
    have k2 : (e : Int) ≤ (c : Int) := by have := HM.out; omega
    obtain ⟨Lp, hLp⟩ : ∃ Lp, pre.map (fun p => ptH L p.1) = Lp := ⟨_, rfl⟩
    rw [hLp] at hrow hZ
    obtain ⟨k, hk⟩ : ∃ k, Lp.length = k := ⟨_, rfl⟩
    have hkm : k ≤ 100 := by rw [← hk, ← hLp, List.length_map]; exact Nat.le_trans (Nat.le_of_lt hlt) (Nat.le_trans (bes_short 17 i 0 m (by have := HM.out; omega)) (by decide))
    obtain ⟨X, hX⟩ : ∃ X, ptH L (s, e) = X := ⟨_, rfl⟩
    have hX32 : X.length = 32 := by rw [← hX]; exact ptH_32 HM.out.2.2.2.2 _
    rw [hX] at hZ
    have HRt : Hid (∀ Z, Below W.heap.size W Z → Calls Tryd.prog 16 #[.slice (if c = s then some ⟨b1, o1, none⟩ else some ⟨b1, o1 + s * 32, none⟩) (e - s) (c - s)] Z fun e w' => e = .returned (.agg (hv X)) ∧ Below Z.heap.size Z w') := fun Z hZ => by
      have h7 := HLW.out Z (h4.trans (hZ.mono h4.size))
      have h8 := root_any h7.2 (h7.1.cut s e hem hse HM.out.2.1) (fun a n c' e' => by have := Value.slice.inj e'; have := HM.out.2.1; omega) (by rw [List.length_take]; have := HM.out; omega)
      have h9 : rootH ((L.drop s).take (e - s)) = X := hX
      rwa [h9] at h8
    have HC : Hid (∀ Z, Below W.heap.size W Z → Z.cell? ⟨w.heap.size + 1, 0, none⟩ = some v ∧ Z.cell? ⟨w.heap.size, 0, none⟩ = some (.slice (some ⟨b1, o1, none⟩) m c) ∧ Z.cell? ⟨g, 0, none⟩ = some (.int .i64 (s : Int)) ∧ Z.cell? ⟨g, 1, none⟩ = some (.int .i64 (e : Int))) := fun Z hZ => by
      have hgl := (Array.getElem?_eq_some_iff.1 hg1).1
      exact ⟨((hbv.kept (grown_new hZ) (by simp)).cell), (h2.kept (grown_new hZ) (by simp)).cell, by rw [World.cell?_of_block (a := ⟨g, 0, none⟩) (hZ.block _ hgl)]; exact c0, by rw [World.cell?_of_block (a := ⟨g, 1, none⟩) (hZ.block _ hgl)]; exact c1⟩
    have HO : Hid (∀ Z, Below W.heap.size W Z → Boxed Z (w.heap.size + 1) 22 v ∧ Z.ownsRow w.heap.size 23 32 v Lp.length (hsv Lp) ∧ w.heap.size ≤ Z.heap.size) := fun Z hZ => by
      refine ⟨hbv.kept (grown_new hZ) (by simp), ?_, Nat.le_trans h4.size hZ.size⟩
      refine hrow.kept (grown_new hZ) ?_
      rcases hrow.2 with ⟨rfl, -⟩ | ⟨g, cap, cur, rfl, -⟩
      · exact .inl rfl
      · exact .inr (fun e => by cases e)
    have Hg2 : Hid (w4.heap.size ≤ g) := hg2
    have HG1 : Hid (W.heap[g]? = some (.cells #[.int .i64 (s : Int), .int .i64 (e : Int)] 55 (0, 0))) := hg1
    have HI : Hid (Boxed W w.heap.size 22 (.slice (some ⟨b1, o1, none⟩) m c) ∧ w4.heap.size ≤ W.heap.size ∧ Below w.heap.size w W) := ⟨h2, h3, h4⟩
    have HZ : Hid _ := hZ
    generalize pre ++ [x] = z at *
    have hks := hse
    have hkm2 : s ≤ c := by have := HM.out; omega
    have hk7 : e ≤ c := by have := HM.out; omega
    have hbld := build_hash (hv X) (by rw [hv_size, hX32])
    rw [zero_h32] at hbld
    clear hZ x hbv hrow h2 h3 h4 hg1 hg2 hlt hem hl hr hvc h2c c0 c1 hX hLp
    gi_wp2_with fail
    refine wpIn_region_round (S := fun Z => Z.cell? ⟨w.heap.size, 0, none⟩ = some (.slice (some ⟨b1, o1, none⟩) m c) ∧ Z.cell? ⟨g, 0, none⟩ = some (.int .i64 (s : Int)) ∧ Z.cell? ⟨g, 1, none⟩ = some (.int .i64 (e : Int))) (by kernel_rfl) (by kernel_rfl) (by rintro ⟨a, w, h⟩; exact h) ?_
    change wpAnyH _ _ _ _ _ _ _ _ (World.drew _)
    have hY : Below W.heap.size W W.drew := (Below.refl _ _).drew
    generalize World.drew _ = y0 at *
    have HX := (HC.out _ hY).2
    refine wpAnyH_take (i := 1) (v := .slice (some ⟨b1, o1, none⟩) m c) rfl (by kernel_rfl) (by kernel_rfl) (by kernel_rfl) (fun _ _ _ h => h) (Or.inl ⟨by rfl, by intro w9 h9; have c9 := h9.1; go_simp⟩) HX ?_
    simp only [List.getElem_toArray, List.getElem_cons_succ, List.getElem_cons_zero, Act.put, List.setIfInBounds_toArray, List.set_cons_zero, List.set_cons_succ]
    refine wpAnyH_take (i := 2) (v := .pointer (some ⟨g, 0, none⟩)) rfl (by kernel_rfl) (by kernel_rfl) (by kernel_rfl) (fun _ _ _ h => h) (Or.inl ⟨by rfl, by intro w9 _; go_simp⟩) HX ?_
    simp only [List.getElem_toArray, List.getElem_cons_succ, List.getElem_cons_zero, Act.put, List.setIfInBounds_toArray, List.set_cons_zero, List.set_cons_succ]
    refine wpAnyH_take (i := 3) (v := .int .i64 (s : Int)) rfl (by kernel_rfl) (by kernel_rfl) (by kernel_rfl) (fun _ _ _ h => h) (Or.inl ⟨by rfl, by intro w9 h9; have c9 := h9.2.1; go_simp⟩) HX ?_
    simp only [List.getElem_toArray, List.getElem_cons_succ, List.getElem_cons_zero, Act.put, List.setIfInBounds_toArray, List.set_cons_zero, List.set_cons_succ]
    refine wpAnyH_take (i := 4) (v := .pointer (some ⟨g, 1, none⟩)) rfl (by kernel_rfl) (by kernel_rfl) (by kernel_rfl) (fun _ _ _ h => h) (Or.inl ⟨by rfl, by intro w9 _; go_simp⟩) HX ?_
    simp only [List.getElem_toArray, List.getElem_cons_succ, List.getElem_cons_zero, Act.put, List.setIfInBounds_toArray, List.set_cons_zero, List.set_cons_succ]
    refine wpAnyH_take (i := 5) (v := .int .i64 (e : Int)) rfl (by kernel_rfl) (by kernel_rfl) (by kernel_rfl) (fun _ _ _ h => h) (Or.inl ⟨by rfl, by intro w9 h9; have c9 := h9.2.2; go_simp⟩) HX ?_
    simp only [List.getElem_toArray, List.getElem_cons_succ, List.getElem_cons_zero, Act.put, List.setIfInBounds_toArray, List.set_cons_zero, List.set_cons_succ]
    refine wpAnyH_take (i := 6) (v := .slice (if c = s then some ⟨b1, o1, none⟩ else some ⟨b1, o1 + s * 32, none⟩) (e - s) (c - s)) rfl (by kernel_rfl) (by kernel_rfl) (by kernel_rfl) (fun _ _ _ h => h) (Or.inl ⟨by rfl, by intro w9 _; go_simp⟩) HX ?_
    simp only [List.getElem_toArray, List.getElem_cons_succ, List.getElem_cons_zero, Act.put, List.setIfInBounds_toArray, List.set_cons_zero, List.set_cons_succ]
    refine wpAnyH_ready (rs := [0, 7]) (by kernel_rfl) (by simp) (AllReadyH.cons (by simp only [List.getElem?_toArray, List.getElem?_cons_succ, List.getElem?_cons_zero]; rfl) (fun K hK => ?_) (AllReadyH.cons (by simp only [List.getElem?_toArray, List.getElem?_cons_succ, List.getElem?_cons_zero]; rfl) (fun K hK => ?_) AllReadyH.nil))
    · refine step_want (by rfl) ?_
      have c9 := (HC.out _ hY).1
      go_simp
      clear c9
      refine hK.out _ _ HX (fun _ => ?_)
      clear hK K
      try simp only [List.getElem_toArray, List.getElem_cons_succ, List.getElem_cons_zero, Act.put, List.setIfInBounds_toArray, List.set_cons_zero, List.set_cons_succ]
      refine wpAnyH_ready (rs := [7]) (by kernel_rfl) (by simp) (AllReadyH.cons (by simp only [List.getElem?_toArray, List.getElem?_cons_succ, List.getElem?_cons_zero]; rfl) (fun K hK => ?_) AllReadyH.nil)
      refine step_want (by rfl) ?_
      go_simp
      refine (HRt.out _ hY).mono ?_
      rintro e' y1 ⟨rfl, bc⟩
      have hY : Below W.heap.size W y1 := hY.trans (bc.mono hY.size)
      have HX := (HC.out _ hY).2
      clear bc
      refine hK.out _ _ HX (fun _ => ?_)
      clear hK K
      try simp only [List.getElem_toArray, List.getElem_cons_succ, List.getElem_cons_zero, Act.put, List.setIfInBounds_toArray, List.set_cons_zero, List.set_cons_succ]
      refine wpAnyH_ready (rs := [8]) (by kernel_rfl) (by simp) (AllReadyH.cons (by simp only [List.getElem?_toArray, List.getElem?_cons_succ, List.getElem?_cons_zero]; rfl) (fun K hK => ?_) AllReadyH.nil)
      refine step_want (by rfl) ?_
      go_simp
      obtain ⟨y2, hw⟩ : ∃ y2, y1.alloc (.cells (hv X) 23) = y2 := ⟨_, rfl⟩
      have bc : Below y1.heap.size y1 y2 := by rw [← hw]; exact (Below.refl _ _).alloc (Nat.le_refl _) _
      obtain ⟨g2, hg2⟩ : ∃ g2, y1.heap.size = g2 := ⟨_, rfl⟩
      rw [hw, hg2]
      have Hw : Hid (y1.alloc (.cells (hv X) 23) = y2 ∧ y1.heap.size = g2 ∧ Below W.heap.size W y1) := ⟨hw, hg2, hY⟩
      have hY : Below W.heap.size W y2 := hY.trans (bc.mono hY.size)
      have HX := (HC.out _ hY).2
      clear bc hw hg2
      refine hK.out _ _ HX (fun _ => ?_)
      clear hK K
      try simp only [List.getElem_toArray, List.getElem_cons_succ, List.getElem_cons_zero, Act.put, List.setIfInBounds_toArray, List.set_cons_zero, List.set_cons_succ]
      refine wpAnyH_ready (rs := [9]) (by kernel_rfl) (by simp) (AllReadyH.cons (by simp only [List.getElem?_toArray, List.getElem?_cons_succ, List.getElem?_cons_zero]; rfl) (fun K hK => ?_) AllReadyH.nil)
      refine step_want (by rfl) ?_
      refine wp_append_box (.tmp 18) (.tmp 26) rfl X hX32 hk (by omega) Hw.out.1 Hw.out.2.1 (HO.out _ Hw.out.2.2).1 (HO.out _ Hw.out.2.2).2.1 (HO.out _ Hw.out.2.2).2.2 (by omega) rfl rfl ?_
      intro xa xc y3 hb3 hbx hrn hkp
      have hc3 := hb3.cell
      have hf3 := hb3.frozen
      have HBx : Hid _ := hbx
      have HRn : Hid _ := hrn
      have HY1 : Hid (Below W.heap.size W y1) := Hw.out.2.2
      have hL3 : Boxed y3 w.heap.size 22 (.slice (some ⟨b1, o1, none⟩) m c) := (hkp _ _ _ _ (HI.out.1.kept (grown_new HY1.out) (by simp)) (by decide)).trans (HI.out.1.kept (grown_new HY1.out) (by simp))
      have hg3 : y3.heap[g]? = some (.cells #[.int .i64 (s : Int), .int .i64 (e : Int)] 55 (0, 0)) := by
        have h5 := (HY1.out.block _ (Array.getElem?_eq_some_iff.1 HG1.out).1).trans HG1.out
        exact (hkp _ _ _ _ h5 (by decide)).trans h5
      have HL3 : Hid _ := hL3
      have HG3 : Hid _ := hg3
      have HX := And.intro hL3.cell (And.intro (show y3.cell? ⟨g, 0, none⟩ = some (.int .i64 (s : Int)) by rw [cell_of_row _ _ _ _ _ _ hg3]; rfl) (show y3.cell? ⟨g, 1, none⟩ = some (.int .i64 (e : Int)) by rw [cell_of_row _ _ _ _ _ _ hg3]; rfl))
      clear hb3 hbx hrn hkp hL3 hg3 hY Hw HO HC
      refine hK.out _ _ HX (fun _ => ?_)
      clear hK K
      try simp only [List.getElem_toArray, List.getElem_cons_succ, List.getElem_cons_zero, Act.put, List.setIfInBounds_toArray, List.set_cons_zero, List.set_cons_succ]
      refine wpAnyH_ready (rs := [10]) (by kernel_rfl) (by simp) (AllReadyH.cons (by simp only [List.getElem?_toArray, List.getElem?_cons_succ, List.getElem?_cons_zero]; rfl) (fun K hK => ?_) AllReadyH.nil)
      refine step_want (by rfl) ?_
      go_simp
      obtain ⟨y4, hy4⟩ : ∃ y4, y3.setCell ⟨w.heap.size + 1, 0, none⟩ (.slice xa (k + 1) xc) = y4 := ⟨_, rfl⟩
      have hne : ∀ j, j ≠ w.heap.size + 1 → y4.heap[j]? = y3.heap[j]? := fun j hj => by rw [← hy4]; exact Below.heap_setCell _ _ _ j (fun e => by first | exact hj e | exact hj e.symm)
      have hL4 : Boxed y4 w.heap.size 22 (.slice (some ⟨b1, o1, none⟩) m c) := (hne _ (by omega)).trans HL3.out
      have hg4 : y4.heap[g]? = some (.cells #[.int .i64 (s : Int), .int .i64 (e : Int)] 55 (0, 0)) := (hne _ (by have := HG.out.2.2.2; have := Hg2.out; omega)).trans HG3.out
      have HX := And.intro hL4.cell (And.intro (show y4.cell? ⟨g, 0, none⟩ = some (.int .i64 (s : Int)) by rw [cell_of_row _ _ _ _ _ _ hg4]; rfl) (show y4.cell? ⟨g, 1, none⟩ = some (.int .i64 (e : Int)) by rw [cell_of_row _ _ _ _ _ _ hg4]; rfl))
      have hBx := HBx.out
      have hRn := HRn.out w4.heap.size
      rw [hy4] at hBx hRn
      rw [hy4]
      refine hK.out _ _ HX (fun _ => ?_)
      clear hK K
      try simp only [List.getElem_toArray, List.getElem_cons_succ, List.getElem_cons_zero, Act.put, List.setIfInBounds_toArray, List.set_cons_zero, List.set_cons_succ]
      refine wpAnyH_done (by kernel_rfl) ?_ _
      have hR : Rn w4.heap.size w.heap.size W y4 := (Rn.new HY1.out HI.out.2.2.size).t hRn
      exact ⟨hR.k, hR.p, by rw [HZ.out]; exact hBx, hL4, Nat.le_trans HI.out.2.1 hR.k.size, HI.out.2.2.trans hR.b⟩
    · refine step_want (by rfl) ?_
      go_simp
      refine (HRt.out _ hY).mono ?_
      rintro e' y1 ⟨rfl, bc⟩
      have hY : Below W.heap.size W y1 := hY.trans (bc.mono hY.size)
      have HX := (HC.out _ hY).2
      clear bc
      refine hK.out _ _ HX (fun _ => ?_)
      clear hK K
      try simp only [List.getElem_toArray, List.getElem_cons_succ, List.getElem_cons_zero, Act.put, List.setIfInBounds_toArray, List.set_cons_zero, List.set_cons_succ]
      refine wpAnyH_ready (rs := [0, 8]) (by kernel_rfl) (by simp) (AllReadyH.cons (by simp only [List.getElem?_toArray, List.getElem?_cons_succ, List.getElem?_cons_zero]; rfl) (fun K hK => ?_) (AllReadyH.cons (by simp only [List.getElem?_toArray, List.getElem?_cons_succ, List.getElem?_cons_zero]; rfl) (fun K hK => ?_) AllReadyH.nil))
      · refine step_want (by rfl) ?_
        have c9 := (HC.out _ hY).1
        go_simp
        clear c9
        refine hK.out _ _ HX (fun _ => ?_)
        clear hK K
        try simp only [List.getElem_toArray, List.getElem_cons_succ, List.getElem_cons_zero, Act.put, List.setIfInBounds_toArray, List.set_cons_zero, List.set_cons_succ]
        refine wpAnyH_ready (rs := [8]) (by kernel_rfl) (by simp) (AllReadyH.cons (by simp only [List.getElem?_toArray, List.getElem?_cons_succ, List.getElem?_cons_zero]; rfl) (fun K hK => ?_) AllReadyH.nil)
        refine step_want (by rfl) ?_
        go_simp
        obtain ⟨y2, hw⟩ : ∃ y2, y1.alloc (.cells (hv X) 23) = y2 := ⟨_, rfl⟩
        have bc : Below y1.heap.size y1 y2 := by rw [← hw]; exact (Below.refl _ _).alloc (Nat.le_refl _) _
        obtain ⟨g2, hg2⟩ : ∃ g2, y1.heap.size = g2 := ⟨_, rfl⟩
        rw [hw, hg2]
        have Hw : Hid (y1.alloc (.cells (hv X) 23) = y2 ∧ y1.heap.size = g2 ∧ Below W.heap.size W y1) := ⟨hw, hg2, hY⟩
        have hY : Below W.heap.size W y2 := hY.trans (bc.mono hY.size)
        have HX := (HC.out _ hY).2
        clear bc hw hg2
        refine hK.out _ _ HX (fun _ => ?_)
        clear hK K
        try simp only [List.getElem_toArray, List.getElem_cons_succ, List.getElem_cons_zero, Act.put, List.setIfInBounds_toArray, List.set_cons_zero, List.set_cons_succ]
        refine wpAnyH_ready (rs := [9]) (by kernel_rfl) (by simp) (AllReadyH.cons (by simp only [List.getElem?_toArray, List.getElem?_cons_succ, List.getElem?_cons_zero]; rfl) (fun K hK => ?_) AllReadyH.nil)
        refine step_want (by rfl) ?_
        refine wp_append_box (.tmp 18) (.tmp 26) rfl X hX32 hk (by omega) Hw.out.1 Hw.out.2.1 (HO.out _ Hw.out.2.2).1 (HO.out _ Hw.out.2.2).2.1 (HO.out _ Hw.out.2.2).2.2 (by omega) rfl rfl ?_
        intro xa xc y3 hb3 hbx hrn hkp
        have hc3 := hb3.cell
        have hf3 := hb3.frozen
        have HBx : Hid _ := hbx
        have HRn : Hid _ := hrn
        have HY1 : Hid (Below W.heap.size W y1) := Hw.out.2.2
        have hL3 : Boxed y3 w.heap.size 22 (.slice (some ⟨b1, o1, none⟩) m c) := (hkp _ _ _ _ (HI.out.1.kept (grown_new HY1.out) (by simp)) (by decide)).trans (HI.out.1.kept (grown_new HY1.out) (by simp))
        have hg3 : y3.heap[g]? = some (.cells #[.int .i64 (s : Int), .int .i64 (e : Int)] 55 (0, 0)) := by
          have h5 := (HY1.out.block _ (Array.getElem?_eq_some_iff.1 HG1.out).1).trans HG1.out
          exact (hkp _ _ _ _ h5 (by decide)).trans h5
        have HL3 : Hid _ := hL3
        have HG3 : Hid _ := hg3
        have HX := And.intro hL3.cell (And.intro (show y3.cell? ⟨g, 0, none⟩ = some (.int .i64 (s : Int)) by rw [cell_of_row _ _ _ _ _ _ hg3]; rfl) (show y3.cell? ⟨g, 1, none⟩ = some (.int .i64 (e : Int)) by rw [cell_of_row _ _ _ _ _ _ hg3]; rfl))
        clear hb3 hbx hrn hkp hL3 hg3 hY Hw HO HC
        refine hK.out _ _ HX (fun _ => ?_)
        clear hK K
        try simp only [List.getElem_toArray, List.getElem_cons_succ, List.getElem_cons_zero, Act.put, List.setIfInBounds_toArray, List.set_cons_zero, List.set_cons_succ]
        refine wpAnyH_ready (rs := [10]) (by kernel_rfl) (by simp) (AllReadyH.cons (by simp only [List.getElem?_toArray, List.getElem?_cons_succ, List.getElem?_cons_zero]; rfl) (fun K hK => ?_) AllReadyH.nil)
        refine step_want (by rfl) ?_
        go_simp
        obtain ⟨y4, hy4⟩ : ∃ y4, y3.setCell ⟨w.heap.size + 1, 0, none⟩ (.slice xa (k + 1) xc) = y4 := ⟨_, rfl⟩
        have hne : ∀ j, j ≠ w.heap.size + 1 → y4.heap[j]? = y3.heap[j]? := fun j hj => by rw [← hy4]; exact Below.heap_setCell _ _ _ j (fun e => by first | exact hj e | exact hj e.symm)
        have hL4 : Boxed y4 w.heap.size 22 (.slice (some ⟨b1, o1, none⟩) m c) := (hne _ (by omega)).trans HL3.out
        have hg4 : y4.heap[g]? = some (.cells #[.int .i64 (s : Int), .int .i64 (e : Int)] 55 (0, 0)) := (hne _ (by have := HG.out.2.2.2; have := Hg2.out; omega)).trans HG3.out
        have HX := And.intro hL4.cell (And.intro (show y4.cell? ⟨g, 0, none⟩ = some (.int .i64 (s : Int)) by rw [cell_of_row _ _ _ _ _ _ hg4]; rfl) (show y4.cell? ⟨g, 1, none⟩ = some (.int .i64 (e : Int)) by rw [cell_of_row _ _ _ _ _ _ hg4]; rfl))
        have hBx := HBx.out
        have hRn := HRn.out w4.heap.size
        rw [hy4] at hBx hRn
        rw [hy4]
        refine hK.out _ _ HX (fun _ => ?_)
        clear hK K
        try simp only [List.getElem_toArray, List.getElem_cons_succ, List.getElem_cons_zero, Act.put, List.setIfInBounds_toArray, List.set_cons_zero, List.set_cons_succ]
        refine wpAnyH_done (by kernel_rfl) ?_ _
        have hR : Rn w4.heap.size w.heap.size W y4 := (Rn.new HY1.out HI.out.2.2.size).t hRn
        exact ⟨hR.k, hR.p, by rw [HZ.out]; exact hBx, hL4, Nat.le_trans HI.out.2.1 hR.k.size, HI.out.2.2.trans hR.b⟩
      · refine step_want (by rfl) ?_
        go_simp
        obtain ⟨y2, hw⟩ : ∃ y2, y1.alloc (.cells (hv X) 23) = y2 := ⟨_, rfl⟩
        have bc : Below y1.heap.size y1 y2 := by rw [← hw]; exact (Below.refl _ _).alloc (Nat.le_refl _) _
        obtain ⟨g2, hg2⟩ : ∃ g2, y1.heap.size = g2 := ⟨_, rfl⟩
        rw [hw, hg2]
        have Hw : Hid (y1.alloc (.cells (hv X) 23) = y2 ∧ y1.heap.size = g2 ∧ Below W.heap.size W y1) := ⟨hw, hg2, hY⟩
        have hY : Below W.heap.size W y2 := hY.trans (bc.mono hY.size)
        have HX := (HC.out _ hY).2
        clear bc hw hg2
        refine hK.out _ _ HX (fun _ => ?_)
        clear hK K
        try simp only [List.getElem_toArray, List.getElem_cons_succ, List.getElem_cons_zero, Act.put, List.setIfInBounds_toArray, List.set_cons_zero, List.set_cons_succ]
        refine wpAnyH_ready (rs := [0]) (by kernel_rfl) (by simp) (AllReadyH.cons (by simp only [List.getElem?_toArray, List.getElem?_cons_succ, List.getElem?_cons_zero]; rfl) (fun K hK => ?_) AllReadyH.nil)
        refine step_want (by rfl) ?_
        have c9 := (HC.out _ hY).1
        go_simp
        clear c9
        refine hK.out _ _ HX (fun _ => ?_)
        clear hK K
        try simp only [List.getElem_toArray, List.getElem_cons_succ, List.getElem_cons_zero, Act.put, List.setIfInBounds_toArray, List.set_cons_zero, List.set_cons_succ]
        refine wpAnyH_ready (rs := [9]) (by kernel_rfl) (by simp) (AllReadyH.cons (by simp only [List.getElem?_toArray, List.getElem?_cons_succ, List.getElem?_cons_zero]; rfl) (fun K hK => ?_) AllReadyH.nil)
        refine step_want (by rfl) ?_
        refine wp_append_box (.tmp 18) (.tmp 26) rfl X hX32 hk (by omega) Hw.out.1 Hw.out.2.1 (HO.out _ Hw.out.2.2).1 (HO.out _ Hw.out.2.2).2.1 (HO.out _ Hw.out.2.2).2.2 (by omega) rfl rfl ?_
        intro xa xc y3 hb3 hbx hrn hkp
        have hc3 := hb3.cell
        have hf3 := hb3.frozen
        have HBx : Hid _ := hbx
        have HRn : Hid _ := hrn
        have HY1 : Hid (Below W.heap.size W y1) := Hw.out.2.2
        have hL3 : Boxed y3 w.heap.size 22 (.slice (some ⟨b1, o1, none⟩) m c) := (hkp _ _ _ _ (HI.out.1.kept (grown_new HY1.out) (by simp)) (by decide)).trans (HI.out.1.kept (grown_new HY1.out) (by simp))
        have hg3 : y3.heap[g]? = some (.cells #[.int .i64 (s : Int), .int .i64 (e : Int)] 55 (0, 0)) := by
          have h5 := (HY1.out.block _ (Array.getElem?_eq_some_iff.1 HG1.out).1).trans HG1.out
          exact (hkp _ _ _ _ h5 (by decide)).trans h5
        have HL3 : Hid _ := hL3
        have HG3 : Hid _ := hg3
        have HX := And.intro hL3.cell (And.intro (show y3.cell? ⟨g, 0, none⟩ = some (.int .i64 (s : Int)) by rw [cell_of_row _ _ _ _ _ _ hg3]; rfl) (show y3.cell? ⟨g, 1, none⟩ = some (.int .i64 (e : Int)) by rw [cell_of_row _ _ _ _ _ _ hg3]; rfl))
        clear hb3 hbx hrn hkp hL3 hg3 hY Hw HO HC
        refine hK.out _ _ HX (fun _ => ?_)
        clear hK K
        try simp only [List.getElem_toArray, List.getElem_cons_succ, List.getElem_cons_zero, Act.put, List.setIfInBounds_toArray, List.set_cons_zero, List.set_cons_succ]
        refine wpAnyH_ready (rs := [10]) (by kernel_rfl) (by simp) (AllReadyH.cons (by simp only [List.getElem?_toArray, List.getElem?_cons_succ, List.getElem?_cons_zero]; rfl) (fun K hK => ?_) AllReadyH.nil)
        refine step_want (by rfl) ?_
        go_simp
        obtain ⟨y4, hy4⟩ : ∃ y4, y3.setCell ⟨w.heap.size + 1, 0, none⟩ (.slice xa (k + 1) xc) = y4 := ⟨_, rfl⟩
        have hne : ∀ j, j ≠ w.heap.size + 1 → y4.heap[j]? = y3.heap[j]? := fun j hj => by rw [← hy4]; exact Below.heap_setCell _ _ _ j (fun e => by first | exact hj e | exact hj e.symm)
        have hL4 : Boxed y4 w.heap.size 22 (.slice (some ⟨b1, o1, none⟩) m c) := (hne _ (by omega)).trans HL3.out
        have hg4 : y4.heap[g]? = some (.cells #[.int .i64 (s : Int), .int .i64 (e : Int)] 55 (0, 0)) := (hne _ (by have := HG.out.2.2.2; have := Hg2.out; omega)).trans HG3.out
        have HX := And.intro hL4.cell (And.intro (show y4.cell? ⟨g, 0, none⟩ = some (.int .i64 (s : Int)) by rw [cell_of_row _ _ _ _ _ _ hg4]; rfl) (show y4.cell? ⟨g, 1, none⟩ = some (.int .i64 (e : Int)) by rw [cell_of_row _ _ _ _ _ _ hg4]; rfl))
        have hBx := HBx.out
        have hRn := HRn.out w4.heap.size
        rw [hy4] at hBx hRn
        rw [hy4]
        refine hK.out _ _ HX (fun _ => ?_)
        clear hK K
        try simp only [List.getElem_toArray, List.getElem_cons_succ, List.getElem_cons_zero, Act.put, List.setIfInBounds_toArray, List.set_cons_zero, List.set_cons_succ]
        refine wpAnyH_done (by kernel_rfl) ?_ _
        have hR : Rn w4.heap.size w.heap.size W y4 := (Rn.new HY1.out HI.out.2.2.size).t hRn
        exact ⟨hR.k, hR.p, by rw [HZ.out]; exact hBx, hL4, Nat.le_trans HI.out.2.1 hR.k.size, HI.out.2.2.trans hR.b⟩
  case done =>
    rintro D ys W hD hys ⟨⟨v, hbv, hrow⟩, h2, h3, h4⟩ hKd
    have hp := HPR.out ys hys
    rw [hp] at hrow
    have hvc := hbv.cell
    have HM2 : Hid (Mh w w.heap.size v (prH L i) (W.putObj D (.deferred none))) := ⟨h4.trans (belowK_b (w := w) (Nat.le_refl _) _ D _ _ (by have := HG.out.2.2.2; omega) hKd rfl rfl), Nat.le_refl _, fun x hx => by
      rw [← hp] at hx
      obtain ⟨y, -, rfl⟩ := List.mem_map.1 hx
      exact ptH_32 HM.out.2.2.2.2 _, ownsRow_putObj hrow _ hKd rfl⟩
    obtain ⟨va, vc, rfl, hvc2⟩ := HM2.out.slice
    have HK : Hid _ := hKd
    clear hp hrow h2 h3 h4 hKd hys hbv hvc2
    gi_wp2_with fail
    refine ⟨by simp, .inl ⟨_, _, rfl, run_takeDeferred HK.out, ?_⟩⟩
    exact ⟨_, results_tmp2 rfl _ _ _, va, vc, rfl, HM2.out⟩
  case stop =>
    rintro D c pre W hD hpre hf hK
    exact hf.elim
theorem prove_any {w : World} {a : Option Addr} {c : Nat} {L : List (List UInt8)} (i : Nat) (hi : i < L.length) (hK : TabL w) (hL : HsAt w (.slice a L.length c) L) (hc : L.length ≤ c) (hl : L.length ≤ 100000) :
    Calls Tryd.prog 9 #[.slice a L.length c, .int .i64 (i : Int)] w fun e w' => ∃ a c, e = .returned (.tuple #[.slice a (prH L i).length c, .int .i64 0]) ∧ Mh w w.heap.size (.slice a (prH L i).length c) (prH L i) w' :=
  (callsIn_wide (n := 5)).1 (prove_wide 5 (by omega) i hi hK hL hc hl)
end Go.Proofs.YtficmbaffkkfhaaDoor
