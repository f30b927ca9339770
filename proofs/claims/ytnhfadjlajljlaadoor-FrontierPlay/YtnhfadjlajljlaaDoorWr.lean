/- The document's own Load of a frontier (layer 10). -/
import Derived.Test.YtnhfadjlajljlaaDoorWq
import Derived.Laws.OwnMore
import Derived.Laws.Append
/- append of one hash, told where the list lies; the document's own frontier turned (layer 10). -/
namespace Go.Proofs.YtnhfadjlajljlaaDoor
open Go.RowKit

theorem row_mono {w : World} {B B' : Nat} {e : TypeId} {z : Nat} {v : Value} {n : Nat} {xs : List Value} (h : w.ownsRow B e z v n xs) (hB : B' ≤ B) : w.ownsRow B' e z v n xs := by
  refine ⟨h.1, ?_⟩
  rcases h.2 with q | ⟨g, cap, cur, q1, q2, q3⟩
  · exact .inl q
  · exact .inr ⟨g, cap, cur, q1, Nat.le_trans hB q2, q3⟩
theorem news_cells {w : World} {ad : Addr} {c : Nat} {M : List (List UInt8)} (hN : HsAt w (.slice (some ad) M.length c) M) : ∀ j u, (hsv M)[j]? = some u → w.cell? (ad.add j) = some u := fun j u hj => by
  have h32 := hN.len
  have hjl := (List.getElem?_eq_some_iff.1 hj).1
  rw [hsv_length h32] at hjl
  obtain ⟨x, hx⟩ : ∃ x, M[j / 32]? = some x := ⟨_, List.getElem?_eq_getElem (by omega)⟩
  obtain ⟨hx32, b, off, e2, hr⟩ := hN.cells.2 (j / 32) x hx
  obtain rfl : ad = ⟨b, off, none⟩ := by simpa using e2
  obtain ⟨u', hu'⟩ : ∃ u', (hv x).toList[j % 32]? = some u' := ⟨_, List.getElem?_eq_getElem (by rw [Array.length_toList, hv_size, hx32]; omega)⟩
  have h1 := hsv_get h32 hx _ _ hu'
  rw [show j / 32 * 32 + j % 32 = j by omega, hj] at h1
  have h2 := hr w (Below.refl _ _) _ _ hu'
  rw [Addr.add_mid, show off + j = off + j / 32 * 32 + j % 32 by omega, h2, Option.some.inj h1]
/-- append of one hash: the list stays where it lies, or is new. -/
theorem wp_append_h1 {w : World} {B : Nat} {v : Value} {M : List (List UInt8)} {o : Oper} {a : Act} {K : Act → World → Prop} {Q : Exit → Act → World → Prop} (s y : Operand) (ho : o.op = .call { callee := .builtin .append, args := #[s, y], argTypes := #[22, 22] })
    (hs : a.eval s = v) (hM : w.ownsRow B 30 32 v M.length (hsv M)) (h32 : ∀ y ∈ M, y.length = 32) (g2 : Nat) (x : List UInt8) (hy : a.eval y = .slice (some ⟨g2, 0, none⟩) 1 1) (hN : HsAt w (.slice (some ⟨g2, 0, none⟩) 1 1) [x]) (hl : M.length ≤ 1000) (hB : B ≤ w.heap.size)
    (h : ∀ v' w', w'.ownsRow B 30 32 v' (M ++ [x]).length (hsv (M ++ [x])) → w.grownBy w' v.ownBlock → (∀ k, v'.ownBlock = some k → v.ownBlock = some k ∨ w.heap.size ≤ k) → K (a.put o.dst v') w') : o.wp Tryd.prog a w K Q := by
  obtain ⟨ia, z, i1, i2, i3, i4, i5⟩ := info_hash
  have hx32 : x.length = 32 := hN.len x (by simp)
  have hnl : (hsv [x]).length = 1 * 32 := hsv_length (L := [x]) (fun y hy => by rw [List.mem_singleton.1 hy]; exact hx32)
  have hnc : ∀ j u, (hsv [x])[j]? = some u → w.cell? ((⟨g2, 0, none⟩ : Addr).add j) = some u := news_cells (M := [x]) hN
  rw [List.length_append, List.length_singleton, hsv_append] at h
  rcases hM.2 with ⟨q1, q2⟩ | ⟨g, cap, cur, q1, q2, q3, q4, q5, q6, q7⟩
  · have hM0 : M = [] := List.length_eq_zero_iff.1 q2
    subst hM0 q1
    refine wp_append_own w s y 22 ho w.heap.size 30 ia z 32 32 Tryd.underlying22 i1 i2 i4 i5 i3 (by omega) _ 0 [] hs (World.ownsRow_nil _ _ _ _) ⟨g2, 0, none⟩ 1 1 (hsv [x]) hy hnl hnc (hsv_one [x]) (by simp [maxLen]) (by omega) (Nat.le_refl _) (fun v' w' r1 r2 _ => ?_)
    exact h v' w' (row_mono r1 hB) r2 fun k hk => .inr (row_at r1 hk).1
  · subst q1
    obtain ⟨v', w', hr, h2, h3, -⟩ := run_append_own (P := Tryd.prog) (w := w) B 22 o.type 30 ia z 32 32 Tryd.underlying22 i1 i2 i4 i5 i3 (by omega) _ M.length (hsv M) hM ⟨g2, 0, none⟩ 1 1 (hsv [x]) hnl hnc (hsv_one [x]) (by simp only [maxLen]; omega) (by omega) hB
    have hk : ∀ k, v'.ownBlock = some k → (Value.slice (some ⟨g, 0, none⟩) M.length cap).ownBlock = some k ∨ w.heap.size ≤ k := by
      by_cases hfit : M.length + 1 ≤ cap
      · obtain ⟨w2, hr2, -, -⟩ := run_append_fits (P := Tryd.prog) w B 22 o.type 30 ia 32 Tryd.underlying22 i1 i4 g M.length cap (hsv M) hM ⟨g2, 0, none⟩ 1 1 (hsv [x]) hnl hnc (hsv_one [x]) hfit
        have e := hr.symm.trans hr2
        obtain ⟨rfl, -⟩ := Result.ok.inj e
        exact fun k hk => .inl hk
      · have hr2 := run_append_grow (P := Tryd.prog) w 22 o.type 30 ia z Tryd.underlying22 i1 i2 ⟨g, 0, none⟩ M.length cap (hsv M) (by rw [hsv_length h32, i4]) (fun j u hj => World.ownsRow.cells hM rfl j u hj) ⟨g2, 0, none⟩ 1 1 (hsv [x]) (by rw [hnl, i4]) hnc (by omega) (by omega) (growslice_fits (by omega) (by rw [i5]; omega))
        have e := hr.symm.trans hr2
        obtain ⟨rfl, -⟩ := Result.ok.inj e
        exact fun k hk => .inr (by
          have : w.heap.size = k := Option.some.inj hk
          omega)
    unfold Oper.wp execOp
    simp only [ho, resolve, invoke, builtin, Sem.run_bind, Sem.run_pure, Result.andThen_ok, List.map_toArray, List.map_cons, List.map_nil, hs, hy, hr]
    exact h v' w' h2 h3 hk
section
variable {w w1 w2 : World} {B b : Nat} {sv hw v' : Value} {Sz Sz' : List Nat} {Hs Hs' : List (List UInt8)}
/-- What turns when the document's own frontier turns. -/
structure Ch (w : World) (b : Nat) (sv hw : Value) (w' : World) : Prop where
  os : w'.os = w.os
  tape : w'.tape = w.tape
  output : w'.output = w.output
  size : w.heap.size ≤ w'.heap.size
  block : ∀ k, k < w.heap.size → k ≠ b → sv.ownBlock ≠ some k → hw.ownBlock ≠ some k → w'.heap[k]? = w.heap[k]?
theorem Ch.below {B : Nat} {w' : World} (h : Ch w b sv hw w') (hr : Rf w B b sv hw Sz Hs) : Below B w w' :=
  ⟨h.os, h.tape, h.output, h.size, fun k hk => h.block k (Nat.lt_of_lt_of_le hk hr.le) (by have := hr.ge; omega) (fun e => by have := (row_at hr.sz e).1; omega) (fun e => by have := (row_at hr.hs e).1; omega)⟩
theorem Rf.turnS (h : Rf w1 B b sv hw Sz Hs) (hg : w1.grownBy w2 sv.ownBlock) (ho : w2.ownsRow B 3 1 v' Sz'.length (isv Sz')) :
    Rf (w2.setCell ⟨b, 0, none⟩ v') B b v' hw Sz' Hs ∧ Ch w1 b sv hw (w2.setCell ⟨b, 0, none⟩ v') := by
  have hb2 : w2.heap[b]? = some (.cells #[sv, hw] 38 (0, 0)) := (hg.block b h.lt (fun e => by
    obtain ⟨-, cur, e2⟩ := row_at h.sz e.symm
    rw [h.box] at e2
    cases e2)).trans h.box
  refine ⟨⟨heap_set_same (o := 0) (v := v') hb2, h.ge, row_kept ho fun k hk => ?_, row_kept h.hs fun k hk => ?_, h.h32⟩, ⟨hg.os, hg.tape, hg.output, by rw [heap_set_size]; exact hg.size, fun k hk h1 h2 _ => ?_⟩⟩
  · refine Below.heap_setCell _ _ _ _ (fun e => ?_)
    obtain ⟨-, cur, e2⟩ := row_at ho hk
    rw [show k = b from e, hb2] at e2
    cases e2
  · obtain ⟨-, cur, e2⟩ := row_at h.hs hk
    rw [Below.heap_setCell _ _ _ _ (fun e => by rw [show k = b from e, h.box] at e2; cases e2)]
    refine hg.block _ (Array.getElem?_eq_some_iff.1 e2).1 (fun e => ?_)
    obtain ⟨-, cur', e3⟩ := row_at h.sz e.symm
    rw [e2] at e3
    cases e3
  · rw [Below.heap_setCell _ _ _ _ h1]
    exact hg.block _ hk (fun e => h2 e.symm)
theorem Rf.turnH (h : Rf w1 B b sv hw Sz Hs) (hg : w1.grownBy w2 hw.ownBlock) (ho : w2.ownsRow B 30 32 v' Hs'.length (hsv Hs')) (h32 : ∀ x ∈ Hs', x.length = 32) :
    Rf (w2.setCell ⟨b, 1, none⟩ v') B b sv v' Sz Hs' ∧ Ch w1 b sv hw (w2.setCell ⟨b, 1, none⟩ v') := by
  have hb2 : w2.heap[b]? = some (.cells #[sv, hw] 38 (0, 0)) := (hg.block b h.lt (fun e => by
    obtain ⟨-, cur, e2⟩ := row_at h.hs e.symm
    rw [h.box] at e2
    cases e2)).trans h.box
  refine ⟨⟨heap_set_same (o := 1) (v := v') hb2, h.ge, row_kept h.sz fun k hk => ?_, row_kept ho fun k hk => ?_, h32⟩, ⟨hg.os, hg.tape, hg.output, by rw [heap_set_size]; exact hg.size, fun k hk h1 _ h3 => ?_⟩⟩
  · obtain ⟨-, cur, e2⟩ := row_at h.sz hk
    rw [Below.heap_setCell _ _ _ _ (fun e => by rw [show k = b from e, h.box] at e2; cases e2)]
    refine hg.block _ (Array.getElem?_eq_some_iff.1 e2).1 (fun e => ?_)
    obtain ⟨-, cur', e3⟩ := row_at h.hs e.symm
    rw [e2] at e3
    cases e3
  · refine Below.heap_setCell _ _ _ _ (fun e => ?_)
    obtain ⟨-, cur, e2⟩ := row_at ho hk
    rw [show k = b from e, hb2] at e2
    cases e2
  · rw [Below.heap_setCell _ _ _ _ h1]
    exact hg.block _ hk (fun e => h3 e.symm)
end
end Go.Proofs.YtnhfadjlajljlaaDoor

namespace Go.Proofs.YtnhfadjlajljlaaDoor
open Go.RowKit

set_option maxRecDepth 100000 in
set_option linter.unusedSimpArgs false in
theorem rload_bad {w : World} {v : Value} {L : List (List UInt8)} (n : Int) (hL : HsAt w v L) (hn1 : n < 9223372036854775808) (hb : n < 0 ∨ pcN n.toNat ≠ L.length) : Calls Tryd.prog 9 #[.int .i64 n, v] w fun e w' => e = .returned (.tuple #[.pointer none, .int .i64 2]) ∧ w' = w := by
  obtain ⟨a, c, rfl, -⟩ := id hL
  clear hL
  by_cases hn : n < 0
  · go_enter Tryd.func9, Tryd.ntmps9
    go_wp2
    go_ret2
    exact ⟨rfl, rfl⟩
  · obtain ⟨m, rfl⟩ := Int.eq_ofNat_of_zero_le (show 0 ≤ n by omega)
    have hb2 : pcN m ≠ L.length := hb.resolve_left hn
    have hne : (((pcN m : Nat) : Int) == (L.length : Int)) = false := by rw [beq_eq_false_iff_ne]; omega
    have HC : Hid (∀ W, Calls Tryd.prog 26 #[.int .i64 (m : Int)] W fun e w' => e = .returned (.int .i64 (pcN m)) ∧ w' = W) := fun W => rones_any m W (by omega)
    clear hb hb2 hn
    have hn : ¬ (m : Int) < 0 := by omega
    clear hn1
    generalize pcN m = q at *
    generalize L.length = r at *
    go_enter Tryd.func9, Tryd.ntmps9
    go_wp2_with (first | (go_at_call 26; refine (HC.out _).mono ?_; rintro e w ⟨rfl, rfl⟩) | fail)
    go_ret2
    exact ⟨rfl, rfl⟩
def szE0 : Nat → Nat
  | 0 => 0
  | e + 1 => 2 ^ e
theorem size_at10 (e : Nat) (he : e < 63) : (1 ≤ 2 ^ e ∧ 2 ^ e < 9223372036854775808) ∧ 2 ^ e / 2 = szE0 e := by
  refine ⟨⟨Nat.pow_pos (by decide), Nat.pow_lt_pow_right (by decide) he⟩, ?_⟩
  cases e with
  | zero => rfl
  | succ e => show 2 ^ (e + 1) / 2 = 2 ^ e; rw [Nat.pow_succ]; omega
set_option maxRecDepth 100000 in
set_option maxHeartbeats 4000000 in
set_option linter.unusedSimpArgs false in
set_option linter.unusedVariables false in
theorem rload_good {w : World} {v : Value} {L : List (List UInt8)} (n : Nat) (hL : HsAt w v L) (hlen : L.length ≤ 1000) (hn : n < 9223372036854775808) (hb : pcN n = L.length) : Calls Tryd.prog 9 #[.int .i64 n, v] w fun e w' => ∃ b sv hw, e = .returned (.tuple #[.pointer (some ⟨b, 0, none⟩), .int .i64 0]) ∧ Rf w' w.heap.size b sv hw (szN n) L ∧ Below w.heap.size w w' := by
  obtain ⟨a, c, rfl, -⟩ := id hL
  have HC : Hid (∀ W, Calls Tryd.prog 26 #[.int .i64 (n : Int)] W fun e w' => e = .returned (.int .i64 (L.length : Nat)) ∧ w' = W) := fun W => by
    have := rones_any n W hn
    rwa [hb] at this
  have h32 := hL.len
  have hng : ¬ (n : Int) < 0 := by omega
  have HN : Hid (HsAt (w.alloc (.cells #[] 30)) (.slice a L.length c) L) := hL.below ((Below.refl _ _).alloc (Nat.le_refl _) _)
  have HM : Hid (Mh w w.heap.size (.slice (some ⟨w.heap.size, 0, none⟩) 0 0) [] (w.alloc (.cells #[] 30))) := ⟨(Below.refl _ _).alloc (Nat.le_refl _) _, Nat.le_refl _, fun x hx => (by cases hx), World.ownsRow_made w #[] 0 (Nat.le_refl _) (by simp [maxLen]) (by simp)⟩
  have HS0 : Hid (([] : List Nat) ++ szT 63 n = szN n) := by show _ = _; rw [List.nil_append]; exact szT_eq 63 n (by omega)
  have HNn : Hid (n < 2 ^ 63) := by show _ < _; omega
  obtain ⟨r, hr⟩ : ∃ r, L.length = r := ⟨_, rfl⟩
  have HRl : Hid (L.length = r) := hr
  have hr1000 : r ≤ 1000 := by omega
  have hpc63 := pc_le 63 n (by omega)
  have HPl : Hid (∀ pre m e, pre ++ szT e m = szN n → pre.length ≤ 63) := fun pre m e h => by
    have := congrArg List.length h
    rw [List.length_append, szN_length] at this
    omega
  rw [hr] at HC HN
  clear hL hb hn hlen hr hpc63
  rw [HRl.out]
  go_enter Tryd.func9, Tryd.ntmps9
  go_wp2_with (first | (go_at_call 26; refine (HC.out _).mono ?_; rintro e w ⟨rfl, rfl⟩) | (refine wpList_append_mq rfl (.tmp 17) (.tmp 18) rfl HM.out _ rfl rfl HN.out L r (by simp) HRl.out (by omega) ?_; intro ya yc w4 _ HR _; have HR : Hid (Mh w w.heap.size (.slice ya r yc) L w4) := HR; clear HM HN) | fail)
  obtain ⟨b, hb⟩ : ∃ b, w4.heap.size = b := ⟨_, rfl⟩
  have hwb : Hid (w.heap.size ≤ b) := by
    show _ ≤ _
    rw [← hb]
    exact HR.out.below.size
  obtain ⟨w5, hw5⟩ : ∃ w5, w4.alloc (.cells #[.slice none 0 0, .slice ya r yc] 38) = w5 := ⟨_, rfl⟩
  have HRf : Hid (Rf w5 w.heap.size b (.slice none 0 0) (.slice ya r yc) [] L ∧ Below w.heap.size w w5) := by
    have hM5 := HR.out.alloc (.cells #[.slice none 0 0, .slice ya r yc] 38)
    rw [hw5] at hM5
    refine ⟨⟨?_, hwb.out, World.ownsRow_nil _ _ _ _, ?_, h32⟩, hM5.below⟩
    · rw [← hw5, ← hb]
      exact heap_alloc_last w4 _
    · have := hM5.owns
      rwa [HRl.out] at this ⊢
  rw [hb, hw5]
  clear hb hw5 HR HC
  go_loopw [0, 7] (fun nv sv wr => ∃ (e m s : Nat) (pre : List Nat) (szv : Value), e ≤ 63 ∧ s = szE0 e ∧ m < 2 ^ e ∧ pre ++ szT e m = szN n ∧ nv = .int .i64 m ∧ sv = .int .i64 s ∧ Rf wr w.heap.size b szv (.slice ya r yc) pre L ∧ Below w.heap.size w wr) (fun _ sv _ => (intOf sv).toNat)
  case atStart => exact ⟨63, n, 4611686018427387904, [], _, Nat.le_refl _, rfl, HNn.out, HS0.out, rfl, rfl, HRf.out.1, HRf.out.2⟩
  case round =>
    obtain ⟨e, m, s, pre, szv, he, hs, hm, hp, rfl, rfl, hF, hB⟩ := hrel
    clear HRf HS0 HNn
    cases e with
    | zero =>
      have hs0 : s = 0 := hs
      subst hs0
      have hng0 : ¬ ((0 : Nat) : Int) > 0 := by omega
      have hpp : pre = szN n := by rw [← hp]; simp [szT]
      subst hpp
      have HF : Hid (Rf wr w.heap.size b szv (.slice ya r yc) (szN n) L ∧ Below w.heap.size w wr) := ⟨hF, hB⟩
      clear hp hF hB hs hm he
      go_wp2
      go_ret2
      first | exact ⟨b, rfl, ⟨_, _, HF.out.1⟩, HF.out.2⟩ | exact ⟨b, rfl, _, ⟨_, HF.out.1⟩, HF.out.2⟩ | exact ⟨b, rfl, _, _, HF.out.1, HF.out.2⟩
    | succ e =>
      have hs2 : s = 2 ^ e := hs
      obtain ⟨⟨hq1, hq2⟩, hq3⟩ := size_at10 e (by omega)
      rw [← hs2] at hq1 hq2 hq3
      have hm2 : m < 2 * s := by rw [hs2]; rw [Nat.pow_succ] at hm; omega
      have hgt : (s : Int) > 0 := by omega
      have hpl := HPl.out pre m (e + 1) hp
      have E1 : Hid (((s / 2 : Nat) : Int) = (s : Int) / 2) := by show _ = _; omega
      have hwq : Hid (wrap64 ((s : Int) / 2) = (s : Int) / 2) := by show _ = _; unfold wrap64; omega
      have hlt : Hid (s / 2 < s) := by show _ < _; omega
      have he2 : Hid (e ≤ 63) := by show _ ≤ _; omega
      have hq3' : Hid (s / 2 = szE0 e) := hq3
      rw [szT] at hp
      by_cases hge : s ≤ m
      · have hge2 : (m : Int) ≥ (s : Int) := by omega
        rw [if_pos (by rw [← hs2]; exact hge), ← hs2] at hp
        have hp2 : Hid ((pre ++ [s]) ++ szT e (m - s) = szN n) := by show _ = _; rw [List.append_assoc]; exact hp
        have hms : Hid (m - s < 2 ^ e) := by show _ < _; omega
        have hsub : Hid (wrap64 ((m : Int) - (s : Int)) = (m : Int) - (s : Int)) := by show _ = _; unfold wrap64; omega
        have E2 : Hid (((m - s : Nat) : Int) = (m : Int) - (s : Int)) := by show _ = _; omega
        obtain ⟨cc0, cc1⟩ := hF.cells
        obtain ⟨xa, xc, rfl, hxc⟩ := row_slice hF.sz
        obtain ⟨w6, hw6⟩ : ∃ w6, wr.alloc (.cells #[.int .i64 (s : Int)] 3) = w6 := ⟨_, rfl⟩
        have b6 : Below wr.heap.size wr w6 := by rw [← hw6]; exact (Below.refl _ _).alloc (Nat.le_refl _) _
        have g6 : w6.heap[wr.heap.size]? = some (.cells #[.int .i64 (s : Int)] 3 (0, 0)) := by rw [← hw6]; exact heap_alloc_last wr _
        have c6 : w6.cell? ⟨wr.heap.size, 0, none⟩ = some (.int .i64 (s : Int)) := by rw [cell_of_row _ _ _ _ _ _ g6]; rfl
        have HF6 : Hid (Rf w6 w.heap.size b (.slice xa pre.length xc) (.slice ya r yc) pre L ∧ Below w.heap.size w w6) := ⟨hF.next b6, hB.trans (b6.mono hF.le)⟩
        have hT : Hid (∀ (v' : Value) (w' : World), w'.ownsRow w.heap.size 3 1 v' (pre ++ [s]).length (isv (pre ++ [s])) → w6.grownBy w' (Value.slice xa pre.length xc).ownBlock → Rf (w'.setCell ⟨b, 0, none⟩ v') w.heap.size b v' (.slice ya r yc) (pre ++ [s]) L ∧ Below w.heap.size w (w'.setCell ⟨b, 0, none⟩ v')) := fun v' w' h1 h2 => by
          obtain ⟨h3, h4⟩ := HF6.out.1.turnS h2 h1
          exact ⟨h3, HF6.out.2.trans (h4.below HF6.out.1)⟩
        have hbx : Hid (∀ (w' : World), w6.grownBy w' (Value.slice xa pre.length xc).ownBlock → w'.cell? ⟨b, 0, none⟩ = some (.slice xa pre.length xc) ∧ w'.frozen? ⟨b, 0, none⟩ = false) := fun w' h2 => by
          have e2 : w'.heap[b]? = some (.cells #[.slice xa pre.length xc, .slice ya r yc] 38 (0, 0)) := (h2.block b HF6.out.1.lt (fun e => by
            obtain ⟨-, cur, e2⟩ := row_at HF6.out.1.sz e.symm
            rw [HF6.out.1.box] at e2
            cases e2)).trans HF6.out.1.box
          exact ⟨by rw [cell_of_row _ _ _ _ _ _ e2]; rfl, by rw [World.frozen?, e2]; rfl⟩
        have hpre : Hid (pre.length ≤ 1000) := by show _ ≤ _; omega
        clear hp hF hB hs hs2 hm hm2 hq1 hq2 hq3 b6 g6 hxc hpl hge he
        go_wp2_with (first | (simp only [hsub.out, hwq.out]) | (refine wpList_plain rfl fun _ hK => wp_append_i1 (M := pre) (.tmp 33) (.tmp 35) rfl rfl HF6.out.1.sz wr.heap.size s rfl c6 hpre.out HF6.out.1.le (fun v' w7 h1 h2 => hK _ _ ?_); have HT7 : Hid _ := hT.out v' w7 h1 h2; obtain ⟨d7, f7⟩ := hbx.out w7 h2; obtain ⟨va, vc, rfl, -⟩ := row_slice h1; clear h1 h2 c6 cc0 cc1 hw6) | fail)
        go_roundw
        case rel => exact ⟨e, m - s, s / 2, pre ++ [s], _, he2.out, hq3'.out, hms.out, hp2.out, by first | rfl | simp only [hsub.out, E2.out], by first | rfl | simp only [hwq.out, E1.out], by simpa using HT7.out.1, by simpa using HT7.out.2⟩
        case measure => simp [intOf, hwq.out]; have := hlt.out; omega
      · have hge2 : ¬ (m : Int) ≥ (s : Int) := by omega
        rw [if_neg (by rw [← hs2]; exact hge)] at hp
        have hp2 : Hid (pre ++ szT e m = szN n) := hp
        have hms : Hid (m < 2 ^ e) := by show _ < _; omega
        have HF : Hid (Rf wr w.heap.size b szv (.slice ya r yc) pre L ∧ Below w.heap.size w wr) := ⟨hF, hB⟩
        clear hp hF hB hs hs2 hm hm2 hq1 hq2 hq3 hpl hge he
        go_wp2_with (first | (simp only [hwq.out]) | fail)
        go_roundw
        case rel => exact ⟨e, m, s / 2, pre, szv, he2.out, hq3'.out, hms.out, hp2.out, rfl, by simp only [hwq.out, E1.out], HF.out.1, HF.out.2⟩
        case measure => simp [intOf, hwq.out]; have := hlt.out; omega
end Go.Proofs.YtnhfadjlajljlaaDoor
