/- The law RunsFree (layer 7). -/
import Derived.Test.YtbnfhhjgalphgaaZp
import Derived.Test.YtbnfhhjgalphgaaYe
import Derived.OwnWalk
namespace Go.Proofs.Ytbnfhhjgalphgaa
open Go.RowKit

/-- append of numbers to a list of one's own that is not nil. -/
theorem wpList_append_nz {ops : Array Oper} {rest : List Oper} {o : Oper} {a : Act} {W : World} {Q : Exit → Act → World → Prop} (hgd : o.guard = none) (s y : Operand) (ho : o.op = .call { callee := .builtin .append, args := #[s, y], argTypes := #[35, 35] })
    {w0 : World} {B : Nat} {v : Value} {M : List Int} (hM : Nu w0 B v M W) (xv : Value) (N : List Int) (hs : a.eval s = v) (hy : a.eval y = xv) (hN : NumsAt W xv N)
    (hsome : ∃ ad n c, v = .slice (some ad) n c) (R : List Int) (n : Nat) (hR : M ++ N = R) (hn : R.length = n) (hl : n ≤ 1000000)
    (h : ∀ g xc w', n ≤ xc → Nu w0 B (.slice (some ⟨g, 0, none⟩) n xc) R w' → wpList Try.prog ops Q rest (a.put o.dst (.slice (some ⟨g, 0, none⟩) n xc)) w') : wpList Try.prog ops Q (o :: rest) a W := by
  subst hR hn
  obtain ⟨ia, i1, i2, i3, i4⟩ := info_num
  obtain ⟨xa, xc, e, hh⟩ := hN
  subst e
  rw [List.length_append] at *
  cases xa with
  | none =>
    have hN0 : N = [] := by
      cases N with
      | nil => rfl
      | cons z k => obtain ⟨_, _, h, _⟩ := hh 0 z rfl; cases h
    subst hN0
    obtain ⟨ad, n, c, e⟩ := hsome
    subst e
    obtain ⟨g, rfl⟩ : ∃ g, ad = ⟨g, 0, none⟩ := by
      rcases hM.owns.2 with ⟨q1, _⟩ | ⟨g, cap, cur, q1, _⟩
      · have := (Value.slice.inj q1).1; cases this
      · exact ⟨g, Option.some.inj (Value.slice.inj q1).1⟩
    obtain ⟨a', c', e', hcap⟩ := hM.slice
    obtain ⟨rfl, rfl, rfl⟩ := Value.slice.inj e'
    have hap := rappend_nothing (P := Try.prog) (w := W) 35 o.type 3 ia Try.underlying35 i1 ⟨g, 0, none⟩ M.length c xc hcap
    refine wpList_plain hgd fun K hK => ?_
    unfold Oper.wp execOp
    simp only [ho, resolve, invoke, builtin, Sem.run_bind, Sem.run_pure, Result.andThen_ok, List.map_toArray, List.map_cons, List.map_nil, hs, hy, List.length_nil, hap]
    exact hK _ _ (h _ _ _ (by simpa using hcap) (by simpa using hM))
  | some ad =>
    refine wpList_append_own W hgd s y 35 ho B 3 ia (.int .i64 0) 1 8 Try.underlying35 i1 i2 i3 i4 rfl (by omega) v M.length (niv M) hs hM.owns ad N.length xc (niv N) hy (by rw [niv_length, Nat.mul_one]) (fun j u hj => ?_) (fun u hu => ?_) (by simp only [maxLen]; omega) (by omega) hM.size (fun v' w' r1 r2 r3 => ?_)
    · rw [niv, List.getElem?_map] at hj
      cases hx : N[j]? with
      | none => rw [hx] at hj; cases hj
      | some x =>
        rw [hx] at hj
        obtain rfl := Option.some.inj hj
        obtain ⟨b, off, e2, hc⟩ := hh j x hx
        obtain rfl : ad = ⟨b, off, none⟩ := by simpa using e2
        rw [Addr.add_mid]; exact hc
    · obtain ⟨x, _, rfl⟩ := List.mem_map.1 hu
      rfl
    · rcases id r1.2 with ⟨q1, _⟩ | ⟨g, cap, cur, rfl, _, _, hcap, _⟩
      · obtain ⟨ad', n', c', e'⟩ := hsome
        have := (r3.1 q1).1
        rw [e'] at this
        have := (Value.slice.inj this).1
        cases this
      · exact h g cap w' hcap (hM.grow r2 (by rw [List.length_append, niv, List.map_append]; exact r1))
theorem one_num (w : World) (x : Int) : NumsAt (w.alloc (.cells #[.int .i64 x] 3)) (.slice (some ⟨w.heap.size, 0, none⟩) 1 1) [x] := by
  refine ⟨_, _, rfl, fun i r hi => ⟨_, _, rfl, ?_⟩⟩
  have hi0 : i = 0 := by have := (List.getElem?_eq_some_iff.1 hi).1; simpa using this
  subst hi0
  obtain rfl := Option.some.inj hi
  rw [cell_of_row _ _ _ _ _ _ (heap_alloc_last w _)]
  rfl
theorem NumsAt.before {w : World} {a : Option Addr} {n c : Nat} {l m : List Int} (h : NumsAt w (.slice a n c) (l ++ m)) : NumsAt w (.slice a l.length c) l := by
  obtain ⟨a', c', e, hh⟩ := h
  obtain ⟨rfl, -, rfl⟩ := Value.slice.inj e
  exact ⟨a, c, rfl, fun i x hi => hh i x (by rw [List.getElem?_append_left (List.getElem?_eq_some_iff.1 hi).1]; exact hi)⟩
set_option maxRecDepth 100000 in
set_option maxHeartbeats 4000000 in
theorem free_walk {W : World} {v : Value} {st : List Int} (h : NumsAt W v st) (hroom : ∀ a n c, v = .slice a n c → n ≤ c) : Calls Try.prog 4 #[v] W fun e w' => e = .returned (.bool true) ∧ Below W.heap.size W w' := by
  obtain ⟨a, q, rfl, _⟩ := id h
  by_cases h2 : 2000 < st.length
  · have h3 : (st.length : Int) > 2000 := by omega
    clear h hroom
    go_enter Try.func4, Try.ntmps4
    go_wp2
    go_ret
    exact ⟨rfl, Below.refl _ _⟩
  have h3 : ¬ (st.length : Int) > 2000 := by omega
  have HS : Hid (∀ w', Below W.heap.size W w' → NumsAt w' (.slice a st.length q) st) := fun w' hb => h.below hb
  obtain ⟨ia, i1, i2, i3, i4⟩ := info_num
  have HIA : Hid (Try.prog.info? 3 = some ia ∧ ia.zero = some (.int .i64 0) ∧ ia.size = 1 ∧ ia.bytes = 8) := ⟨i1, i2, i3, i4⟩
  have hw1 : wrap64 ((st.length : Int) + 1) = (st.length : Int) + 1 := by unfold wrap64; omega
  clear h hroom i1 i2 i3 i4
  go_enter Try.func4, Try.ntmps4
  go_wp2_with (first
    | (refine wpList_make_own _ rfl _ _ 35 rfl W.heap.size 3 ia (.int .i64 0) 1 Try.underlying35 HIA.out.1 HIA.out.2.1 HIA.out.2.2.1 .i64 .i64 ((st.length : Int) + 1) (st.length + 1) rfl rfl (by omega) (by rw [HIA.out.2.2.2]; omega) (by simp only [maxLen]; omega) (Nat.le_refl _) ?_
       intro w1 r1 r2
       have hN1 : Nu W W.heap.size (.slice (some ⟨W.heap.size, 0, none⟩) 0 (st.length + 1)) [] w1 := ⟨(Below.refl _ _).grown r2 (Nat.le_refl _) (fun j hj => by cases hj), Nat.le_refl _, r1⟩
       have hS1 := HS.out w1 hN1.below
       clear r1 r2)
    | (refine wpList_append_nz rfl (.tmp 12) (.tmp 13) rfl hN1 _ st rfl rfl hS1 ⟨_, _, _, rfl⟩ st st.length rfl rfl (by omega) ?_
       intro g2 xc w2 hxc hN2
       have hN3 := hN2.alloc (.cells #[.int .i64 7] 3)
       have hS7 := one_num w2 7
       clear hN1 hS1)
    | (refine wpList_append_nz rfl (.tmp 14) (.tmp 15) rfl hN3 _ [7] rfl rfl hS7 ⟨_, _, _, rfl⟩ (st ++ [7]) (st.length + 1) rfl (by simp) (by omega) ?_
       intro g cap w3 hcap hN4
       have hc1 : (st.length : Int) ≤ (cap : Int) := by omega
       have hN5 : Nw W (.slice (some ⟨g, 0, none⟩) (st.length + 1) cap) (st ++ [7]) w3 := ⟨hN4⟩
       have HN : Hid _ := hN5
       clear hN2 hN3 hS7 hN4 hN5)
    | fail)
  have hgw : True := trivial
  have HT : Hid (∀ w', Below w3.heap.size w3 w' → NumsAt w' (.slice (some ⟨g, 0, none⟩) st.length cap) st ∧ w'.cell? ⟨g, st.length, none⟩ = some (.int .i64 7)) := fun w' hb => by
    have hn := (HN.out.below hb).h.nums
    refine ⟨hn.before, ?_⟩
    obtain ⟨_, _, e, hh⟩ := hn
    obtain ⟨b, o, e2, hc⟩ := hh st.length 7 (by simp)
    obtain ⟨rfl, -, -⟩ := Value.slice.inj e
    simp at e2
    obtain ⟨rfl, rfl⟩ := e2
    simpa using hc
  have HW : Hid (BW W w3) := HN.out.bw
  have HFr : Hid (Calls Try.prog 21 #[.slice (some ⟨g, 0, none⟩) st.length cap] w3 fun e w' => ∃ a c, e = .returned (.slice a (freeL st).length c) ∧ RL w' (.slice a (freeL st).length c) (freeL st) ∧ Below w3.heap.size w3 w') := free_rl (HT.out w3 (Below.refl _ _)).1 (fun a n c e => by have := Value.slice.inj e; omega) (by omega)
  clear HN
  go_wp2_with fail
  refine HFr.out.mono ?_
  rintro e w4 ⟨fa, fc, rfl, hF, b⟩
  have HF : Hid (RL w4 (.slice fa (freeL st).length fc) (freeL st)) := hF
  have HB4 : Hid (Below w3.heap.size w3 w4) := b
  have hfl := free_len st
  clear hF b HFr
  go_wp2
  go_loopw [5] (fun iv wr => ∃ m : Nat, m ≤ st.length ∧ iv = .int .i64 m ∧ Below w4.heap.size w4 wr) (fun iv _ => st.length - (intOf iv).toNat)
  case atStart => exact ⟨0, Nat.zero_le _, rfl, Below.refl _ _⟩
  case round =>
    obtain ⟨m, hm, rfl, b⟩ := hrel
    have HB : Hid (Below w4.heap.size w4 wr) := b
    have hb3 : Below w3.heap.size w3 wr := HB4.out.trans (b.mono HB4.out.size)
    have HB3 : Hid (Below w3.heap.size w3 wr) := hb3
    by_cases hlt : m < st.length
    · obtain ⟨x, hx⟩ : ∃ x, st[m]? = some x := ⟨_, List.getElem?_eq_getElem hlt⟩
      obtain ⟨b1, o1, e1, k1⟩ := (HT.out wr hb3).1.cells.2 m x hx
      simp at e1
      obtain ⟨rfl, rfl⟩ := e1
      have c1 := k1 wr (Below.refl _ _)
      obtain ⟨b2, o2, rfl, k2⟩ := (HS.out wr (HW.out.below hb3).h).cells.2 m x hx
      have c2 := k2 wr (Below.refl _ _)
      have hlt2 : (m : Int) < (st.length : Int) := by omega
      rw [Nat.zero_add] at c1
      clear hx k1 k2 b hb3
      go_wp2
      go_quiet (fail)
      have HBq : Hid (Below w4.heap.size w4 (wr.drewN nq)) := below_drewN HB.out _
      generalize wr.drewN nq = wx at *
      go_wp2
      go_roundw
      case rel => exact ⟨m + 1, by omega, by go_num, HBq.out⟩
      case measure => simp [intOf]; omega
    obtain rfl : m = st.length := by omega
    have hlt2 : ¬ ((st.length : Nat) : Int) < (st.length : Int) := by omega
    have HFw : Hid (RL wr (.slice fa (freeL st).length fc) (freeL st)) := HF.out.below b
    have HSw : Hid (NumsAt wr (.slice a st.length q) st) := HS.out wr (HW.out.below hb3).h
    have HWw : Hid (BW W wr) := HW.out.below hb3
    clear b hb3 HF HB HW HB4
    go_wp2_with fail
    refine (rfree_any HSw.out (by omega)).mono ?_
    rintro e w5 ⟨ra, rc, rfl, hM⟩
    have b5 := hM.below
    have HR : Hid (RunsAt w5 (.slice ra (freeL st).length rc) (freeL st)) := hM.own
    have HF5 : Hid _ := HFw.out.below b5
    have HW5 : Hid _ := HWw.out.below b5
    have HB5 : Hid (Below w3.heap.size w3 w5) := HB3.out.trans (b5.mono HB3.out.size)
    clear hM b5 HFw HSw HWw HB3
    go_wp2_with fail
    refine (same_any HF5.out.at_ HR.out (by omega)).mono ?_
    rintro e w6 ⟨rfl, b6⟩
    have HW6 : Hid _ := HW5.out.below b6
    have c7 := (HT.out w6 (HB5.out.trans (b6.mono HB5.out.size))).2
    have hc2 : (st.length : Int) + 1 ≤ (cap : Int) := by omega
    have hn1 : ((st.length : Int) + 1).toNat = st.length + 1 := by omega
    rw [sameB_iff.2 rfl]
    clear b6 HF5 HR HW5 HB5
    go_wp2_with fail
    refine (does_any _).mono ?_
    rintro e w7 ⟨rfl, b7⟩
    have HW7 : Hid _ := HW6.out.below b7
    clear b7 c7
    go_wp2
    go_ret
    exact ⟨rfl, HW7.out.h⟩
end Go.Proofs.Ytbnfhhjgalphgaa
