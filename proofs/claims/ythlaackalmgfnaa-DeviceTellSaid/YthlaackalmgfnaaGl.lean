/- The document's device: Tamper. -/
import Derived.Test.YthlaackalmgfnaaHb
namespace Go.Proofs.Ythlaackalmgfnaa
open Go.RowKit

set_option linter.unusedSimpArgs false in
set_option maxRecDepth 100000 in
set_option maxHeartbeats 3200000 in
theorem rtamper_any {w : World} {q : Nat} {r : Rv} {O : Nat → Prop} (h : Ref w q r O) (i st : Int) (s : List UInt8) (hr : r.acts.length < 100000) :
    Calls Try.prog 45 #[.pointer (some ⟨q, 0, none⟩), .int .i64 i, .int .i64 st, .string (S s)] w fun e w' => e = .returned (.int .i64 (rtamperD r i st s).1) ∧ Ref w' q (rtamperD r i st s).2 (grow O w w') ∧ Turn O w w' := by
  have HR : Hid (Ref w q r (grow O w w) ∧ Turn O w w) := ref_same h (Below.refl _ _)
  obtain ⟨a, b, ca, cb, cv, kv, h⟩ := h
  obtain ⟨c0, -⟩ := h.c
  have hsz : ((S s).size : Int) = (s.length : Int) := by rw [S_size]
  obtain ⟨A, hA⟩ : ∃ A, S s = A := ⟨_, rfl⟩
  have HA : Hid (S s = A) := hA
  have hAe : s = [] → A.toList.isEmpty = true := fun e => by rw [← hA, toList_S, e]; rfl
  have hAn : s ≠ [] → A.toList.isEmpty = false := fun e => by
    rw [← hA, toList_S]
    cases s with
    | nil => exact absurd rfl e
    | cons x l => rfl
  rw [hA] at hsz ⊢
  clear hA
  by_cases hbad : ¬ (0 ≤ i ∧ i < r.st.length) ∨ st < 0 ∨ 2 < st ∨ (st = 1 ∧ s.length ≠ 128) ∨ (st ≠ 1 ∧ s ≠ [])
  · have he : rtamperD r i st s = (2, r) := by unfold rtamperD; rw [if_pos hbad]
    rw [he]
    clear h he hr
    generalize r.st.length = n at *
    by_cases h1 : i < 0
    · clear hbad hAe hAn hsz
      go_enter Try.func45, Try.ntmps45
      go_wp2
      go_ret
      exact ⟨rfl, HR.out⟩
    by_cases h2 : (n : Int) ≤ i
    · clear hbad hAe hAn hsz
      go_enter Try.func45, Try.ntmps45
      go_wp2
      go_ret
      exact ⟨rfl, HR.out⟩
    by_cases h3 : st < 0
    · clear hbad hAe hAn hsz
      go_enter Try.func45, Try.ntmps45
      go_wp2
      go_ret
      exact ⟨rfl, HR.out⟩
    by_cases h4 : 2 < st
    · clear hbad hAe hAn hsz
      go_enter Try.func45, Try.ntmps45
      go_wp2
      go_ret
      exact ⟨rfl, HR.out⟩
    by_cases h5 : st = 1
    · subst h5
      have h6 : ((A.size : Int) != 128) = true := by
        have : ¬ (A.size : Int) = 128 := by
          rw [hsz]
          rcases hbad with e | e | e | e | e
          · omega
          · omega
          · omega
          · omega
          · exact absurd rfl e.1
        simpa using this
      clear hbad hAe hAn hsz h3 h4
      go_enter Try.func45, Try.ntmps45
      go_wp2
      go_ret
      exact ⟨rfl, HR.out⟩
    · have h6 := hAn (by
        rcases hbad with e | e | e | e | e
        · omega
        · omega
        · omega
        · exact absurd e.1 h5
        · exact e.2)
      have h7 : (st == 1) = false := by simpa using h5
      have h8 : (st != 1) = true := by simpa using h5
      clear hbad hAe hAn hsz
      go_enter Try.func45, Try.ntmps45
      go_wp2
      go_ret
      exact ⟨rfl, HR.out⟩
  · have he : rtamperD r i st s = (0, { r with acts := r.acts.filter fun x => decide (x.bl ≠ i), st := r.st.set i.toNat st, da := r.da.set i.toNat s }) := by unfold rtamperD; rw [if_neg hbad]
    rw [he]
    have g1 : 0 ≤ i ∧ i < r.st.length := Classical.byContradiction fun e => hbad (.inl e)
    have g3 : ¬ st < 0 := fun e => hbad (.inr (.inl e))
    have g4 : ¬ 2 < st := fun e => hbad (.inr (.inr (.inl e)))
    have g5 : st = 1 → s.length = 128 := fun e => Classical.byContradiction fun e2 => hbad (.inr (.inr (.inr (.inl ⟨e, e2⟩))))
    have g6 : st ≠ 1 → s = [] := fun e => Classical.byContradiction fun e2 => hbad (.inr (.inr (.inr (.inr ⟨e, e2⟩))))
    clear hbad he HR hAn
    obtain ⟨j, rfl⟩ : ∃ j : Nat, i = j := ⟨i.toNat, by omega⟩
    rw [Int.toNat_natCast]
    have hj0 : j < r.st.length := by omega
    obtain ⟨F, hF⟩ : ∃ F, r.acts.filter (fun x => decide (x.bl ≠ (j : Int))) = F := ⟨_, rfl⟩
    rw [hF]
    obtain ⟨R2, hR2⟩ : ∃ R2, ({ r with acts := F, st := r.st.set j st, da := r.da.set j s } : Rv) = R2 := ⟨_, rfl⟩
    rw [hR2]
    have HR2 : Hid (({ r with acts := F, st := r.st.set j st, da := r.da.set j s } : Rv) = R2) := hR2
    have HF : Hid (∀ m, (r.acts.take m).filter (fun x => decide (x.bl ≠ (j : Int))) = F.take ((r.acts.take m).filter (fun x => decide (x.bl ≠ (j : Int)))).length) := fun m => by
      have e : F = (r.acts.take m).filter (fun x => decide (x.bl ≠ (j : Int))) ++ (r.acts.drop m).filter (fun x => decide (x.bl ≠ (j : Int))) := by rw [← hF, ← List.filter_append, List.take_append_drop]
      rw [e, List.take_left]
    have HFa : Hid (r.acts.filter (fun x => decide (x.bl ≠ (j : Int))) = F) := hF
    have HO : Hid (O q ∧ O a ∧ O b ∧ q < w.heap.size ∧ a < w.heap.size ∧ b < w.heap.size) := h.q_
    have HH : Hid (∀ wr, Below w.heap.size w wr → RefAt wr q r O a b ca cb cv kv) := fun wr hb => h.below hb
    have HSA : Hid (∀ (w1 : World) (v' : Value), Below w.heap.size w w1 → w1.ownsRow w.heap.size 111 3 v' F.length (rac F) → RefAt (w1.setCell ⟨q, 2, none⟩ v') q { r with acts := F } (grow O w w1) a b ca cb v' kv ∧ Turn O w (w1.setCell ⟨q, 2, none⟩ v')) := fun w1 v' hb ho => by
      refine h.setActs (Below.refl _ _) F (fun x hx => h.inr x ?_) ⟨ho.1, ?_⟩ ⟨hb.os, hb.tape, hb.output, hb.size, fun k hk _ => hb.block k hk⟩ (fun k hk => .inr (World.ownsRow.lt ho k hk).1)
      · rw [← hF] at hx; exact (List.mem_filter.1 hx).1
      · rcases ho.2 with e | ⟨g, cp, cr, e1, e2, e3⟩
        · exact .inl e
        · exact .inr ⟨g, cp, cr, e1, Nat.zero_le _, e3⟩
    obtain ⟨xa, xc, hcv⟩ := h.sl
    obtain ⟨ia, i1, i2, i3, i4⟩ := info_ract
    have HIA : Hid (Try.prog.info? 111 = some ia ∧ ia.zero = some (.agg #[.int .i64 0, .string ⟨#[]⟩, .bool false]) ∧ ia.size = 3 ∧ ia.bytes = 32) := ⟨i1, i2, i3, i4⟩
    obtain ⟨n, hn⟩ : ∃ n, r.st.length = n := ⟨_, rfl⟩
    have HN : Hid (r.st.length = n) := hn
    have hj : j < n := by rw [← hn]; exact hj0
    have hj2 : (j : Int) < (n : Int) := by omega
    have hn5 : n ≤ 512 := by rw [← hn]; exact h.small
    rw [hn] at c0
    have gA : ((st == 1) = true ∧ ((A.size : Int) != 128) = false) ∨ ((st == 1) = false ∧ A.toList.isEmpty = true) := by
      by_cases e : st = 1
      · have h1 := g5 e
        refine .inl ⟨by simpa using e, ?_⟩
        have : (A.size : Int) = 128 := by rw [hsz]; omega
        simp [this]
      · exact .inr ⟨by simpa using e, hAe (g6 e)⟩
    clear h i1 i2 i3 i4 hF hR2 hn g1 g5 g6 hAe hsz hj0
    have HGo : Hid (∀ m x, r.acts[m]? = some x → (r.acts.take (m + 1)).filter (fun x => decide (x.bl ≠ (j : Int))) = (r.acts.take m).filter (fun x => decide (x.bl ≠ (j : Int))) ++ if x.bl ≠ (j : Int) then [x] else []) := fun m x hx => by
      rw [List.take_add_one, hx, List.filter_append]
      by_cases e : x.bl = (j : Int) <;> simp [e]
    rcases gA with ⟨t1, t2⟩ | ⟨t1, t2⟩
    · have t3 : (st != 1) = false := by
        have : st = 1 := by simpa using t1
        simpa using this
      go_enter Try.func45, Try.ntmps45
      go_wp2
      go_loopw [9, 10] (fun v i wr => ∃ m : Nat, m ≤ r.acts.length ∧ i = .int .i64 m ∧ wr.ownsRow w.heap.size 111 3 v ((r.acts.take m).filter (fun x => decide (x.bl ≠ (j : Int)))).length (rac ((r.acts.take m).filter (fun x => decide (x.bl ≠ (j : Int))))) ∧ Below w.heap.size w wr) (fun _ i _ => r.acts.length - (intOf i).toNat)
      case atStart => exact ⟨0, Nat.zero_le _, rfl, World.ownsRow_nil _ _ _ _, Below.refl _ _⟩
      case round =>
        obtain ⟨m, hm, rfl, hown, hB⟩ := hrel
        clear c0
        have hRr := HH.out wr hB
        obtain ⟨-, -, c2, -⟩ := hRr.c
        by_cases hlt : m < r.acts.length
        · obtain ⟨x, hx⟩ : ∃ x, r.acts[m]? = some x := ⟨_, List.getElem?_eq_getElem hlt⟩
          clear hcv
          obtain ⟨g, c, hcv, x0, x1, x2⟩ := hRr.act hx
          obtain ⟨g', c', hcv', hrg⟩ := hRr.range hx
          rw [hcv] at hcv'
          simp at hcv'
          obtain ⟨rfl, rfl⟩ := hcv'
          rw [hcv] at c2
          have HGx := HGo.out m x hx
          have hlt2 : (m : Int) < (r.acts.length : Int) := by omega
          have HB : Hid _ := hB
          have HSz : Hid (w.heap.size ≤ wr.heap.size) := hB.size
          have HK : Hid (∀ k, u9.ownBlock = some k → w.heap.size ≤ k) := fun k hk => (World.ownsRow.lt hown k hk).1
          have HLl : Hid (((r.acts.take m).filter (fun x => decide (x.bl ≠ (j : Int)))).length ≤ 100000) := by
            have e := List.length_filter_le (fun x : RA => decide (x.bl ≠ (j : Int))) (r.acts.take m)
            have e2 : (r.acts.take m).length ≤ m := List.length_take_le _ _
            show _ ≤ _
            omega
          obtain ⟨bl, da, er⟩ := x
          dsimp only at x0 x1 x2 HGx
          have HRg : Hid (wr.rangeAt g (m * 3) (raC ⟨bl, da, er⟩)) := hrg
          unfold raC at HRg
          dsimp only at HRg
          have hraC : ∀ Z : List RA, rac (Z ++ [⟨bl, da, er⟩]) = rac Z ++ [Value.int .i64 bl, .string (S da), .bool er] := fun Z => by rw [rac_append]; simp [rac, raC]
          obtain ⟨Y, hY⟩ : ∃ Y, S da = Y := ⟨_, rfl⟩
          rw [hY] at HRg x1 hraC
          have HRc : Hid _ := hraC
          have HIC : Hid ((Try.prog.info? 111).map (·.size) = some [Value.int .i64 bl, .string Y, .bool er].length) := by show _ = some 3; kernel_rfl
          have HOw : Hid ((wr.alloc (.cells #[.int .i64 bl, .string Y, .bool er] 111)).ownsRow w.heap.size 111 3 u9 ((r.acts.take m).filter (fun x => decide (x.bl ≠ (j : Int)))).length (rac ((r.acts.take m).filter (fun x => decide (x.bl ≠ (j : Int)))))) := hown.alloc _
          have HOw0 : Hid _ := hown
          have HNw : Hid (∀ j u, [Value.int .i64 bl, .string Y, .bool er][j]? = some u → (wr.alloc (.cells #[.int .i64 bl, .string Y, .bool er] 111)).cell? ((⟨wr.heap.size, 0, none⟩ : Addr).add j) = some u) := fun j u hj => by
            have := range_row (heap_alloc_last wr (.cells #[.int .i64 bl, .string Y, .bool er] 111)) j u hj
            rw [Addr.add_mid]
            exact this
          have HOne : Hid (∀ u ∈ [Value.int .i64 bl, .string Y, .bool er], u.oneCell' = true) := fun u hu => by
            simp only [List.mem_cons, List.not_mem_nil, or_false] at hu
            rcases hu with rfl | rfl | rfl <;> rfl
          clear hY hraC hown hB hRr hx hrg HF
          generalize hFm : ((r.acts.take m).filter (fun x => decide (x.bl ≠ (j : Int)))) = L at *
          clear hFm
          by_cases hne : bl = (j : Int)
          · have hne2 : (bl != (j : Int)) = false := by simpa using hne
            have HE : Hid (((r.acts.take (m + 1)).filter (fun x => decide (x.bl ≠ (j : Int)))) = L) := by show _ = _; rw [HGx, if_neg (fun e => e hne), List.append_nil]
            clear HGx hne HRg HIC HOw HNw HOne
            go_wp2
            go_roundw
            case rel => exact ⟨m + 1, by omega, by go_num, by rw [HE.out]; exact HOw0.out, HB.out⟩
            case measure => simp [intOf]; omega
          · have hne2 : (bl != (j : Int)) = true := by simpa using hne
            have HE : Hid (((r.acts.take (m + 1)).filter (fun x => decide (x.bl ≠ (j : Int)))) = L ++ [⟨bl, da, er⟩]) := by show _ = _; rw [HGx, if_pos hne]
            clear HGx hne HOw0
            go_wp2_with (first | (refine wpList_load_mid rfl 111 (.tmp 72) rfl g (m * 3) rfl _ _ HRg.out Try.underlying111 rfl HIC.out ?_) | (refine wpList_append_own _ rfl _ _ 33 rfl w.heap.size 111 ia _ 3 32 Try.underlying33 HIA.out.1 HIA.out.2.1 HIA.out.2.2.1 HIA.out.2.2.2 rfl (by decide) u9 L.length (rac L) rfl HOw.out ⟨wr.heap.size, 0, none⟩ 1 1 [Value.int .i64 bl, .string Y, .bool er] rfl rfl HNw.out HOne.out (by have := HLl.out; simp only [maxLen]; omega) (by have := HLl.out; omega) (by have := HSz.out; simp; omega) ?_; intro v' w1 r1 r2 r3; have HRo : Hid (w1.ownsRow w.heap.size 111 3 v' (L.length + 1) (rac L ++ [Value.int .i64 bl, .string Y, .bool er]) ∧ Below w.heap.size w w1) := ⟨r1, (HB.out.alloc HSz.out _).grown r2 (by have := HSz.out; simp; omega) HK.out⟩; clear r1 r2 r3))
            go_roundw
            case rel => exact ⟨m + 1, by omega, by go_num, by rw [HE.out, HRc.out, List.length_append]; exact HRo.out.1, HRo.out.2⟩
            case measure => simp [intOf]; omega
        · obtain rfl : m = r.acts.length := by omega
          rw [List.take_length, HFa.out] at hown
          subst hcv
          have hlt2 : ¬ ((r.acts.length : Nat) : Int) < (r.acts.length : Int) := by omega
          have f2 : wr.frozen? ⟨q, 2, none⟩ = false := frozen_of_row _ _ _ _ _ hRr.cells
          obtain ⟨va, vc, hv⟩ := owns_slice0 hown
          subst hv
          have HSx := HSA.out wr _ hB hown
          obtain ⟨rA, hrA⟩ : ∃ rA, ({ r with acts := F } : Rv) = rA := ⟨_, rfl⟩
          rw [hrA] at HSx
          have HRx : Hid (({ rA with st := rA.st.set j st, da := rA.da.set j s } : Rv) = R2) := by show _ = _; rw [← hrA]; exact HR2.out
          have HLm : Hid (rA.st.length = n) := by show _ = _; rw [← hrA]; exact HN.out
          have HL3 : Hid (R2.st.length = n) := by show _ = _; rw [← HRx.out]; show (List.set _ _ _).length = n; rw [List.length_set]; exact HLm.out
          have HD : Hid _ := HSx.1
          have HT : Hid _ := HSx.2
          have HZ : Hid ((wr.setCell ⟨q, 2, none⟩ (.slice va F.length vc)).heap.size = wr.heap.size) := heap_set_size _ _ _
          clear HSx hrA HR2 HSA HH hown HF HFa HGo HN hRr
          replace HR2 : Hid _ := HRx.out
          clear HRx hB
          go_wp2
          clear c2 f2
          obtain ⟨WW, hWW⟩ : ∃ WW, wr.setCell ⟨q, 2, none⟩ (.slice va F.length vc) = WW := ⟨_, rfl⟩
          rw [hWW] at HD HT HZ
          rw [hWW]
          clear hWW
          obtain ⟨vA, hvA⟩ : ∃ vA, Value.slice va F.length vc = vA := ⟨_, rfl⟩
          rw [hvA] at HD
          refine wp_region_held (S := fun w' => w'.cell? ⟨q, 0, none⟩ = some (.slice (some ⟨a, 0, none⟩) n ca) ∧ w'.cell? ⟨q, 1, none⟩ = some (.slice (some ⟨b, 0, none⟩) n cb)) (by kernel_rfl) ?_
          change wpAnyH _ _ _ _ _ _ _ _ (World.drew _)
          have D1 : Hid (RefAt WW.drew q rA (grow O w wr) a b ca cb vA kv) := HD.out.below (Below.refl _ _).drew
          have HS : WW.drew.cell? ⟨q, 0, none⟩ = some (.slice (some ⟨a, 0, none⟩) n ca) ∧ WW.drew.cell? ⟨q, 1, none⟩ = some (.slice (some ⟨b, 0, none⟩) n cb) := by
            obtain ⟨q0, q1, -⟩ := D1.out.c
            rw [HLm.out] at q0 q1
            exact ⟨q0, q1⟩
          have HT1 : Hid (Turn O w WW.drew) := HT.out.drew
          have HZ1 : Hid (WW.drew.heap.size = wr.heap.size) := HZ.out
          generalize WW.drew = W1 at *
          refine wpAnyH_take (i := 0) (v := .pointer (some ⟨q, 0, none⟩)) rfl (by kernel_rfl) (by kernel_rfl) (by kernel_rfl) (fun _ _ _ h => h) (Or.inl ⟨by rfl, by intro w _; go_simp⟩) HS ?_
          simp only [List.getElem_toArray, List.getElem_cons_succ, List.getElem_cons_zero, Act.put, List.setIfInBounds_toArray, List.set_cons_zero, List.set_cons_succ]
          refine wpAnyH_take (i := 1) (v := .pointer (some ⟨q, 0, none⟩)) rfl (by kernel_rfl) (by kernel_rfl) (by kernel_rfl) (fun _ _ _ h => h) (Or.inl ⟨by rfl, by intro w _; go_simp⟩) HS ?_
          simp only [List.getElem_toArray, List.getElem_cons_succ, List.getElem_cons_zero, Act.put, List.setIfInBounds_toArray, List.set_cons_zero, List.set_cons_succ]
          refine wpAnyH_take (i := 2) (v := .pointer (some ⟨q, 0, none⟩)) rfl (by kernel_rfl) (by kernel_rfl) (by kernel_rfl) (fun _ _ _ h => h) (Or.inl ⟨by rfl, by intro w _; go_simp⟩) HS ?_
          simp only [List.getElem_toArray, List.getElem_cons_succ, List.getElem_cons_zero, Act.put, List.setIfInBounds_toArray, List.set_cons_zero, List.set_cons_succ]
          refine wpAnyH_take (i := 3) (v := .slice (some ⟨a, 0, none⟩) n ca) rfl (by kernel_rfl) (by kernel_rfl) (by kernel_rfl) (fun _ _ _ h => h) (Or.inl ⟨by rfl, by intro w hw; have hw : w.cell? ⟨q, 0, none⟩ = some (.slice (some ⟨a, 0, none⟩) n ca) ∧ w.cell? ⟨q, 1, none⟩ = some (.slice (some ⟨b, 0, none⟩) n cb) := hw; obtain ⟨hw1, hw2⟩ := hw; go_simp⟩) HS ?_
          simp only [List.getElem_toArray, List.getElem_cons_succ, List.getElem_cons_zero, Act.put, List.setIfInBounds_toArray, List.set_cons_zero, List.set_cons_succ]
          refine wpAnyH_take (i := 4) (v := .int .i64 (j : Int)) rfl (by kernel_rfl) (by kernel_rfl) (by kernel_rfl) (fun _ _ _ h => h) (Or.inl ⟨by rfl, by intro w _; go_simp⟩) HS ?_
          simp only [List.getElem_toArray, List.getElem_cons_succ, List.getElem_cons_zero, Act.put, List.setIfInBounds_toArray, List.set_cons_zero, List.set_cons_succ]
          refine wpAnyH_take (i := 5) (v := .pointer (some ⟨q, 0, none⟩)) rfl (by kernel_rfl) (by kernel_rfl) (by kernel_rfl) (fun _ _ _ h => h) (Or.inl ⟨by rfl, by intro w _; go_simp⟩) HS ?_
          simp only [List.getElem_toArray, List.getElem_cons_succ, List.getElem_cons_zero, Act.put, List.setIfInBounds_toArray, List.set_cons_zero, List.set_cons_succ]
          refine wpAnyH_take (i := 6) (v := .pointer (some ⟨q, 0, none⟩)) rfl (by kernel_rfl) (by kernel_rfl) (by kernel_rfl) (fun _ _ _ h => h) (Or.inl ⟨by rfl, by intro w _; go_simp⟩) HS ?_
          simp only [List.getElem_toArray, List.getElem_cons_succ, List.getElem_cons_zero, Act.put, List.setIfInBounds_toArray, List.set_cons_zero, List.set_cons_succ]
          refine wpAnyH_take (i := 7) (v := .pointer (some ⟨q, 1, none⟩)) rfl (by kernel_rfl) (by kernel_rfl) (by kernel_rfl) (fun _ _ _ h => h) (Or.inl ⟨by rfl, by intro w _; go_simp⟩) HS ?_
          simp only [List.getElem_toArray, List.getElem_cons_succ, List.getElem_cons_zero, Act.put, List.setIfInBounds_toArray, List.set_cons_zero, List.set_cons_succ]
          refine wpAnyH_take (i := 8) (v := .slice (some ⟨b, 0, none⟩) n cb) rfl (by kernel_rfl) (by kernel_rfl) (by kernel_rfl) (fun _ _ _ h => h) (Or.inl ⟨by rfl, by intro w hw; have hw : w.cell? ⟨q, 0, none⟩ = some (.slice (some ⟨a, 0, none⟩) n ca) ∧ w.cell? ⟨q, 1, none⟩ = some (.slice (some ⟨b, 0, none⟩) n cb) := hw; obtain ⟨hw1, hw2⟩ := hw; go_simp⟩) HS ?_
          simp only [List.getElem_toArray, List.getElem_cons_succ, List.getElem_cons_zero, Act.put, List.setIfInBounds_toArray, List.set_cons_zero, List.set_cons_succ]
          refine wpAnyH_take (i := 9) (v := .int .i64 (j : Int)) rfl (by kernel_rfl) (by kernel_rfl) (by kernel_rfl) (fun _ _ _ h => h) (Or.inl ⟨by rfl, by intro w _; go_simp⟩) HS ?_
          simp only [List.getElem_toArray, List.getElem_cons_succ, List.getElem_cons_zero, Act.put, List.setIfInBounds_toArray, List.set_cons_zero, List.set_cons_succ]
          refine wpAnyH_take (i := 10) (v := .int .i64 st) rfl (by kernel_rfl) (by kernel_rfl) (by kernel_rfl) (fun _ _ _ h => h) (Or.inl ⟨by rfl, by intro w _; go_simp⟩) HS ?_
          simp only [List.getElem_toArray, List.getElem_cons_succ, List.getElem_cons_zero, Act.put, List.setIfInBounds_toArray, List.set_cons_zero, List.set_cons_succ]
          refine wpAnyH_take (i := 11) (v := .string A) rfl (by kernel_rfl) (by kernel_rfl) (by kernel_rfl) (fun _ _ _ h => h) (Or.inl ⟨by rfl, by intro w _; go_simp⟩) HS ?_
          simp only [List.getElem_toArray, List.getElem_cons_succ, List.getElem_cons_zero, Act.put, List.setIfInBounds_toArray, List.set_cons_zero, List.set_cons_succ]
          refine wpAnyH_take (i := 12) (v := .pointer (some ⟨a, j, none⟩)) rfl (by kernel_rfl) (by kernel_rfl) (by kernel_rfl) (fun _ _ _ h => h) (Or.inl ⟨by rfl, by intro w _; go_simp⟩) HS ?_
          simp only [List.getElem_toArray, List.getElem_cons_succ, List.getElem_cons_zero, Act.put, List.setIfInBounds_toArray, List.set_cons_zero, List.set_cons_succ]
          have cA := D1.out.sa (k := j) (by rw [HLm.out]; exact hj)
          have fA : W1.frozen? ⟨a, j, none⟩ = false := D1.out.st.frozen j
          have D2 : Hid _ := D1.out.setSt j (by rw [HLm.out]; exact hj) st
          obtain ⟨W2, hW2⟩ : ∃ W2, W1.setCell ⟨a, j, none⟩ (.int .i64 st) = W2 := ⟨_, rfl⟩
          rw [hW2] at D2
          have HL2 : Hid ((rA.st.set j st).length = n) := by show _ = _; rw [List.length_set]; exact HLm.out
          have HS2 : W2.cell? ⟨q, 0, none⟩ = some (.slice (some ⟨a, 0, none⟩) n ca) ∧ W2.cell? ⟨q, 1, none⟩ = some (.slice (some ⟨b, 0, none⟩) n cb) := by
            obtain ⟨q0, q1, -⟩ := D2.out.c
            dsimp only at q0 q1
            rw [HL2.out] at q0 q1
            exact ⟨q0, q1⟩
          have cB := D2.out.dt (k := j) (by show j < (List.set _ _ _).length; rw [HL2.out]; exact hj)
          have fB : W2.frozen? ⟨b, j, none⟩ = false := D2.out.da.frozen j
          have D3 : Hid (RefAt (W2.setCell ⟨b, j, none⟩ (.string A)) q R2 (grow O w wr) a b ca cb vA kv) := by
            have := D2.out.setDa j (by show j < (List.set _ _ _).length; rw [HL2.out]; exact hj) s
            rw [HA.out] at this
            rw [← HR2.out]
            exact this
          have HS3 : (W2.setCell ⟨b, j, none⟩ (.string A)).cell? ⟨q, 0, none⟩ = some (.slice (some ⟨a, 0, none⟩) n ca) ∧ (W2.setCell ⟨b, j, none⟩ (.string A)).cell? ⟨q, 1, none⟩ = some (.slice (some ⟨b, 0, none⟩) n cb) := by
            obtain ⟨q0, q1, -⟩ := D3.out.c
            rw [HL3.out] at q0 q1
            exact ⟨q0, q1⟩
          have HT3 : Hid (Turn O w (W2.setCell ⟨b, j, none⟩ (.string A))) := by
            rw [← hW2]
            exact (HT1.out.setCell HO.out.2.1 _).setCell HO.out.2.2.1 _
          have HZ3 : Hid (wr.heap.size = (W2.setCell ⟨b, j, none⟩ (.string A)).heap.size) := by show _ = _; rw [heap_set_size, ← hW2, heap_set_size, HZ1.out]
          have HW2 : Hid _ := hW2
          clear hW2
          refine wpAnyH_ready (rs := [13]) (by kernel_rfl) (by simp) (AllReadyH.cons (by simp only [List.getElem?_toArray, List.getElem?_cons_succ, List.getElem?_cons_zero]; rfl) (fun K hK => ?_) AllReadyH.nil)
          refine step_plain rfl ?_
          go_simp
          rw [HW2.out]
          refine hK.out _ _ HS2 (fun _ => ?_)
          clear hK K
          try simp only [List.getElem_toArray, List.getElem_cons_succ, List.getElem_cons_zero, Act.put, List.setIfInBounds_toArray, List.set_cons_zero, List.set_cons_succ]
          refine wpAnyH_take (i := 14) (v := .pointer (some ⟨b, j, none⟩)) rfl (by kernel_rfl) (by kernel_rfl) (by kernel_rfl) (fun _ _ _ h => h) (Or.inl ⟨by rfl, by intro w _; go_simp⟩) HS2 ?_
          simp only [List.getElem_toArray, List.getElem_cons_succ, List.getElem_cons_zero, Act.put, List.setIfInBounds_toArray, List.set_cons_zero, List.set_cons_succ]
          refine wpAnyH_ready (rs := [15]) (by kernel_rfl) (by simp) (AllReadyH.cons (by simp only [List.getElem?_toArray, List.getElem?_cons_succ, List.getElem?_cons_zero]; rfl) (fun K hK => ?_) AllReadyH.nil)
          refine step_plain rfl ?_
          go_simp
          refine hK.out _ _ HS3 (fun _ => ?_)
          clear hK K
          try simp only [List.getElem_toArray, List.getElem_cons_succ, List.getElem_cons_zero, Act.put, List.setIfInBounds_toArray, List.set_cons_zero, List.set_cons_succ]
          refine wpAnyH_done (by kernel_rfl) ?_ _
          clear D1 D2 HS HS2 HS3 cA cB fA fB HW2 HT1 HD HT
          generalize W2.setCell ⟨b, j, none⟩ (.string A) = W3 at *
          go_wp2
          go_ret
          exact ⟨rfl, ⟨_, _, _, _, _, _, D3.out.same (fun _ _ => rfl) (Nat.le_refl _) (fun k hk => by rcases hk with hk | hk; exact .inl hk; exact .inr ⟨hk.1, by rw [← HZ3.out]; exact hk.2⟩)⟩, HT3.out⟩
    · have t3 : (st != 1) = true := by
        have : ¬ st = 1 := by simpa using t1
        simpa using this
      go_enter Try.func45, Try.ntmps45
      go_wp2
      go_loopw [9, 10] (fun v i wr => ∃ m : Nat, m ≤ r.acts.length ∧ i = .int .i64 m ∧ wr.ownsRow w.heap.size 111 3 v ((r.acts.take m).filter (fun x => decide (x.bl ≠ (j : Int)))).length (rac ((r.acts.take m).filter (fun x => decide (x.bl ≠ (j : Int))))) ∧ Below w.heap.size w wr) (fun _ i _ => r.acts.length - (intOf i).toNat)
      case atStart => exact ⟨0, Nat.zero_le _, rfl, World.ownsRow_nil _ _ _ _, Below.refl _ _⟩
      case round =>
        obtain ⟨m, hm, rfl, hown, hB⟩ := hrel
        clear c0
        have hRr := HH.out wr hB
        obtain ⟨-, -, c2, -⟩ := hRr.c
        by_cases hlt : m < r.acts.length
        · obtain ⟨x, hx⟩ : ∃ x, r.acts[m]? = some x := ⟨_, List.getElem?_eq_getElem hlt⟩
          clear hcv
          obtain ⟨g, c, hcv, x0, x1, x2⟩ := hRr.act hx
          obtain ⟨g', c', hcv', hrg⟩ := hRr.range hx
          rw [hcv] at hcv'
          simp at hcv'
          obtain ⟨rfl, rfl⟩ := hcv'
          rw [hcv] at c2
          have HGx := HGo.out m x hx
          have hlt2 : (m : Int) < (r.acts.length : Int) := by omega
          have HB : Hid _ := hB
          have HSz : Hid (w.heap.size ≤ wr.heap.size) := hB.size
          have HK : Hid (∀ k, u9.ownBlock = some k → w.heap.size ≤ k) := fun k hk => (World.ownsRow.lt hown k hk).1
          have HLl : Hid (((r.acts.take m).filter (fun x => decide (x.bl ≠ (j : Int)))).length ≤ 100000) := by
            have e := List.length_filter_le (fun x : RA => decide (x.bl ≠ (j : Int))) (r.acts.take m)
            have e2 : (r.acts.take m).length ≤ m := List.length_take_le _ _
            show _ ≤ _
            omega
          obtain ⟨bl, da, er⟩ := x
          dsimp only at x0 x1 x2 HGx
          have HRg : Hid (wr.rangeAt g (m * 3) (raC ⟨bl, da, er⟩)) := hrg
          unfold raC at HRg
          dsimp only at HRg
          have hraC : ∀ Z : List RA, rac (Z ++ [⟨bl, da, er⟩]) = rac Z ++ [Value.int .i64 bl, .string (S da), .bool er] := fun Z => by rw [rac_append]; simp [rac, raC]
          obtain ⟨Y, hY⟩ : ∃ Y, S da = Y := ⟨_, rfl⟩
          rw [hY] at HRg x1 hraC
          have HRc : Hid _ := hraC
          have HIC : Hid ((Try.prog.info? 111).map (·.size) = some [Value.int .i64 bl, .string Y, .bool er].length) := by show _ = some 3; kernel_rfl
          have HOw : Hid ((wr.alloc (.cells #[.int .i64 bl, .string Y, .bool er] 111)).ownsRow w.heap.size 111 3 u9 ((r.acts.take m).filter (fun x => decide (x.bl ≠ (j : Int)))).length (rac ((r.acts.take m).filter (fun x => decide (x.bl ≠ (j : Int)))))) := hown.alloc _
          have HOw0 : Hid _ := hown
          have HNw : Hid (∀ j u, [Value.int .i64 bl, .string Y, .bool er][j]? = some u → (wr.alloc (.cells #[.int .i64 bl, .string Y, .bool er] 111)).cell? ((⟨wr.heap.size, 0, none⟩ : Addr).add j) = some u) := fun j u hj => by
            have := range_row (heap_alloc_last wr (.cells #[.int .i64 bl, .string Y, .bool er] 111)) j u hj
            rw [Addr.add_mid]
            exact this
          have HOne : Hid (∀ u ∈ [Value.int .i64 bl, .string Y, .bool er], u.oneCell' = true) := fun u hu => by
            simp only [List.mem_cons, List.not_mem_nil, or_false] at hu
            rcases hu with rfl | rfl | rfl <;> rfl
          clear hY hraC hown hB hRr hx hrg HF
          generalize hFm : ((r.acts.take m).filter (fun x => decide (x.bl ≠ (j : Int)))) = L at *
          clear hFm
          by_cases hne : bl = (j : Int)
          · have hne2 : (bl != (j : Int)) = false := by simpa using hne
            have HE : Hid (((r.acts.take (m + 1)).filter (fun x => decide (x.bl ≠ (j : Int)))) = L) := by show _ = _; rw [HGx, if_neg (fun e => e hne), List.append_nil]
            clear HGx hne HRg HIC HOw HNw HOne
            go_wp2
            go_roundw
            case rel => exact ⟨m + 1, by omega, by go_num, by rw [HE.out]; exact HOw0.out, HB.out⟩
            case measure => simp [intOf]; omega
          · have hne2 : (bl != (j : Int)) = true := by simpa using hne
            have HE : Hid (((r.acts.take (m + 1)).filter (fun x => decide (x.bl ≠ (j : Int)))) = L ++ [⟨bl, da, er⟩]) := by show _ = _; rw [HGx, if_pos hne]
            clear HGx hne HOw0
            go_wp2_with (first | (refine wpList_load_mid rfl 111 (.tmp 72) rfl g (m * 3) rfl _ _ HRg.out Try.underlying111 rfl HIC.out ?_) | (refine wpList_append_own _ rfl _ _ 33 rfl w.heap.size 111 ia _ 3 32 Try.underlying33 HIA.out.1 HIA.out.2.1 HIA.out.2.2.1 HIA.out.2.2.2 rfl (by decide) u9 L.length (rac L) rfl HOw.out ⟨wr.heap.size, 0, none⟩ 1 1 [Value.int .i64 bl, .string Y, .bool er] rfl rfl HNw.out HOne.out (by have := HLl.out; simp only [maxLen]; omega) (by have := HLl.out; omega) (by have := HSz.out; simp; omega) ?_; intro v' w1 r1 r2 r3; have HRo : Hid (w1.ownsRow w.heap.size 111 3 v' (L.length + 1) (rac L ++ [Value.int .i64 bl, .string Y, .bool er]) ∧ Below w.heap.size w w1) := ⟨r1, (HB.out.alloc HSz.out _).grown r2 (by have := HSz.out; simp; omega) HK.out⟩; clear r1 r2 r3))
            go_roundw
            case rel => exact ⟨m + 1, by omega, by go_num, by rw [HE.out, HRc.out, List.length_append]; exact HRo.out.1, HRo.out.2⟩
            case measure => simp [intOf]; omega
        · obtain rfl : m = r.acts.length := by omega
          rw [List.take_length, HFa.out] at hown
          subst hcv
          have hlt2 : ¬ ((r.acts.length : Nat) : Int) < (r.acts.length : Int) := by omega
          have f2 : wr.frozen? ⟨q, 2, none⟩ = false := frozen_of_row _ _ _ _ _ hRr.cells
          obtain ⟨va, vc, hv⟩ := owns_slice0 hown
          subst hv
          have HSx := HSA.out wr _ hB hown
          obtain ⟨rA, hrA⟩ : ∃ rA, ({ r with acts := F } : Rv) = rA := ⟨_, rfl⟩
          rw [hrA] at HSx
          have HRx : Hid (({ rA with st := rA.st.set j st, da := rA.da.set j s } : Rv) = R2) := by show _ = _; rw [← hrA]; exact HR2.out
          have HLm : Hid (rA.st.length = n) := by show _ = _; rw [← hrA]; exact HN.out
          have HL3 : Hid (R2.st.length = n) := by show _ = _; rw [← HRx.out]; show (List.set _ _ _).length = n; rw [List.length_set]; exact HLm.out
          have HD : Hid _ := HSx.1
          have HT : Hid _ := HSx.2
          have HZ : Hid ((wr.setCell ⟨q, 2, none⟩ (.slice va F.length vc)).heap.size = wr.heap.size) := heap_set_size _ _ _
          clear HSx hrA HR2 HSA HH hown HF HFa HGo HN hRr
          replace HR2 : Hid _ := HRx.out
          clear HRx hB
          go_wp2
          clear c2 f2
          obtain ⟨WW, hWW⟩ : ∃ WW, wr.setCell ⟨q, 2, none⟩ (.slice va F.length vc) = WW := ⟨_, rfl⟩
          rw [hWW] at HD HT HZ
          rw [hWW]
          clear hWW
          obtain ⟨vA, hvA⟩ : ∃ vA, Value.slice va F.length vc = vA := ⟨_, rfl⟩
          rw [hvA] at HD
          refine wp_region_held (S := fun w' => w'.cell? ⟨q, 0, none⟩ = some (.slice (some ⟨a, 0, none⟩) n ca) ∧ w'.cell? ⟨q, 1, none⟩ = some (.slice (some ⟨b, 0, none⟩) n cb)) (by kernel_rfl) ?_
          change wpAnyH _ _ _ _ _ _ _ _ (World.drew _)
          have D1 : Hid (RefAt WW.drew q rA (grow O w wr) a b ca cb vA kv) := HD.out.below (Below.refl _ _).drew
          have HS : WW.drew.cell? ⟨q, 0, none⟩ = some (.slice (some ⟨a, 0, none⟩) n ca) ∧ WW.drew.cell? ⟨q, 1, none⟩ = some (.slice (some ⟨b, 0, none⟩) n cb) := by
            obtain ⟨q0, q1, -⟩ := D1.out.c
            rw [HLm.out] at q0 q1
            exact ⟨q0, q1⟩
          have HT1 : Hid (Turn O w WW.drew) := HT.out.drew
          have HZ1 : Hid (WW.drew.heap.size = wr.heap.size) := HZ.out
          generalize WW.drew = W1 at *
          refine wpAnyH_take (i := 0) (v := .pointer (some ⟨q, 0, none⟩)) rfl (by kernel_rfl) (by kernel_rfl) (by kernel_rfl) (fun _ _ _ h => h) (Or.inl ⟨by rfl, by intro w _; go_simp⟩) HS ?_
          simp only [List.getElem_toArray, List.getElem_cons_succ, List.getElem_cons_zero, Act.put, List.setIfInBounds_toArray, List.set_cons_zero, List.set_cons_succ]
          refine wpAnyH_take (i := 1) (v := .pointer (some ⟨q, 0, none⟩)) rfl (by kernel_rfl) (by kernel_rfl) (by kernel_rfl) (fun _ _ _ h => h) (Or.inl ⟨by rfl, by intro w _; go_simp⟩) HS ?_
          simp only [List.getElem_toArray, List.getElem_cons_succ, List.getElem_cons_zero, Act.put, List.setIfInBounds_toArray, List.set_cons_zero, List.set_cons_succ]
          refine wpAnyH_take (i := 2) (v := .pointer (some ⟨q, 0, none⟩)) rfl (by kernel_rfl) (by kernel_rfl) (by kernel_rfl) (fun _ _ _ h => h) (Or.inl ⟨by rfl, by intro w _; go_simp⟩) HS ?_
          simp only [List.getElem_toArray, List.getElem_cons_succ, List.getElem_cons_zero, Act.put, List.setIfInBounds_toArray, List.set_cons_zero, List.set_cons_succ]
          refine wpAnyH_take (i := 3) (v := .slice (some ⟨a, 0, none⟩) n ca) rfl (by kernel_rfl) (by kernel_rfl) (by kernel_rfl) (fun _ _ _ h => h) (Or.inl ⟨by rfl, by intro w hw; have hw : w.cell? ⟨q, 0, none⟩ = some (.slice (some ⟨a, 0, none⟩) n ca) ∧ w.cell? ⟨q, 1, none⟩ = some (.slice (some ⟨b, 0, none⟩) n cb) := hw; obtain ⟨hw1, hw2⟩ := hw; go_simp⟩) HS ?_
          simp only [List.getElem_toArray, List.getElem_cons_succ, List.getElem_cons_zero, Act.put, List.setIfInBounds_toArray, List.set_cons_zero, List.set_cons_succ]
          refine wpAnyH_take (i := 4) (v := .int .i64 (j : Int)) rfl (by kernel_rfl) (by kernel_rfl) (by kernel_rfl) (fun _ _ _ h => h) (Or.inl ⟨by rfl, by intro w _; go_simp⟩) HS ?_
          simp only [List.getElem_toArray, List.getElem_cons_succ, List.getElem_cons_zero, Act.put, List.setIfInBounds_toArray, List.set_cons_zero, List.set_cons_succ]
          refine wpAnyH_take (i := 5) (v := .pointer (some ⟨q, 0, none⟩)) rfl (by kernel_rfl) (by kernel_rfl) (by kernel_rfl) (fun _ _ _ h => h) (Or.inl ⟨by rfl, by intro w _; go_simp⟩) HS ?_
          simp only [List.getElem_toArray, List.getElem_cons_succ, List.getElem_cons_zero, Act.put, List.setIfInBounds_toArray, List.set_cons_zero, List.set_cons_succ]
          refine wpAnyH_take (i := 6) (v := .pointer (some ⟨q, 0, none⟩)) rfl (by kernel_rfl) (by kernel_rfl) (by kernel_rfl) (fun _ _ _ h => h) (Or.inl ⟨by rfl, by intro w _; go_simp⟩) HS ?_
          simp only [List.getElem_toArray, List.getElem_cons_succ, List.getElem_cons_zero, Act.put, List.setIfInBounds_toArray, List.set_cons_zero, List.set_cons_succ]
          refine wpAnyH_take (i := 7) (v := .pointer (some ⟨q, 1, none⟩)) rfl (by kernel_rfl) (by kernel_rfl) (by kernel_rfl) (fun _ _ _ h => h) (Or.inl ⟨by rfl, by intro w _; go_simp⟩) HS ?_
          simp only [List.getElem_toArray, List.getElem_cons_succ, List.getElem_cons_zero, Act.put, List.setIfInBounds_toArray, List.set_cons_zero, List.set_cons_succ]
          refine wpAnyH_take (i := 8) (v := .slice (some ⟨b, 0, none⟩) n cb) rfl (by kernel_rfl) (by kernel_rfl) (by kernel_rfl) (fun _ _ _ h => h) (Or.inl ⟨by rfl, by intro w hw; have hw : w.cell? ⟨q, 0, none⟩ = some (.slice (some ⟨a, 0, none⟩) n ca) ∧ w.cell? ⟨q, 1, none⟩ = some (.slice (some ⟨b, 0, none⟩) n cb) := hw; obtain ⟨hw1, hw2⟩ := hw; go_simp⟩) HS ?_
          simp only [List.getElem_toArray, List.getElem_cons_succ, List.getElem_cons_zero, Act.put, List.setIfInBounds_toArray, List.set_cons_zero, List.set_cons_succ]
          refine wpAnyH_take (i := 9) (v := .int .i64 (j : Int)) rfl (by kernel_rfl) (by kernel_rfl) (by kernel_rfl) (fun _ _ _ h => h) (Or.inl ⟨by rfl, by intro w _; go_simp⟩) HS ?_
          simp only [List.getElem_toArray, List.getElem_cons_succ, List.getElem_cons_zero, Act.put, List.setIfInBounds_toArray, List.set_cons_zero, List.set_cons_succ]
          refine wpAnyH_take (i := 10) (v := .int .i64 st) rfl (by kernel_rfl) (by kernel_rfl) (by kernel_rfl) (fun _ _ _ h => h) (Or.inl ⟨by rfl, by intro w _; go_simp⟩) HS ?_
          simp only [List.getElem_toArray, List.getElem_cons_succ, List.getElem_cons_zero, Act.put, List.setIfInBounds_toArray, List.set_cons_zero, List.set_cons_succ]
          refine wpAnyH_take (i := 11) (v := .string A) rfl (by kernel_rfl) (by kernel_rfl) (by kernel_rfl) (fun _ _ _ h => h) (Or.inl ⟨by rfl, by intro w _; go_simp⟩) HS ?_
          simp only [List.getElem_toArray, List.getElem_cons_succ, List.getElem_cons_zero, Act.put, List.setIfInBounds_toArray, List.set_cons_zero, List.set_cons_succ]
          refine wpAnyH_take (i := 12) (v := .pointer (some ⟨a, j, none⟩)) rfl (by kernel_rfl) (by kernel_rfl) (by kernel_rfl) (fun _ _ _ h => h) (Or.inl ⟨by rfl, by intro w _; go_simp⟩) HS ?_
          simp only [List.getElem_toArray, List.getElem_cons_succ, List.getElem_cons_zero, Act.put, List.setIfInBounds_toArray, List.set_cons_zero, List.set_cons_succ]
          have cA := D1.out.sa (k := j) (by rw [HLm.out]; exact hj)
          have fA : W1.frozen? ⟨a, j, none⟩ = false := D1.out.st.frozen j
          have D2 : Hid _ := D1.out.setSt j (by rw [HLm.out]; exact hj) st
          obtain ⟨W2, hW2⟩ : ∃ W2, W1.setCell ⟨a, j, none⟩ (.int .i64 st) = W2 := ⟨_, rfl⟩
          rw [hW2] at D2
          have HL2 : Hid ((rA.st.set j st).length = n) := by show _ = _; rw [List.length_set]; exact HLm.out
          have HS2 : W2.cell? ⟨q, 0, none⟩ = some (.slice (some ⟨a, 0, none⟩) n ca) ∧ W2.cell? ⟨q, 1, none⟩ = some (.slice (some ⟨b, 0, none⟩) n cb) := by
            obtain ⟨q0, q1, -⟩ := D2.out.c
            dsimp only at q0 q1
            rw [HL2.out] at q0 q1
            exact ⟨q0, q1⟩
          have cB := D2.out.dt (k := j) (by show j < (List.set _ _ _).length; rw [HL2.out]; exact hj)
          have fB : W2.frozen? ⟨b, j, none⟩ = false := D2.out.da.frozen j
          have D3 : Hid (RefAt (W2.setCell ⟨b, j, none⟩ (.string A)) q R2 (grow O w wr) a b ca cb vA kv) := by
            have := D2.out.setDa j (by show j < (List.set _ _ _).length; rw [HL2.out]; exact hj) s
            rw [HA.out] at this
            rw [← HR2.out]
            exact this
          have HS3 : (W2.setCell ⟨b, j, none⟩ (.string A)).cell? ⟨q, 0, none⟩ = some (.slice (some ⟨a, 0, none⟩) n ca) ∧ (W2.setCell ⟨b, j, none⟩ (.string A)).cell? ⟨q, 1, none⟩ = some (.slice (some ⟨b, 0, none⟩) n cb) := by
            obtain ⟨q0, q1, -⟩ := D3.out.c
            rw [HL3.out] at q0 q1
            exact ⟨q0, q1⟩
          have HT3 : Hid (Turn O w (W2.setCell ⟨b, j, none⟩ (.string A))) := by
            rw [← hW2]
            exact (HT1.out.setCell HO.out.2.1 _).setCell HO.out.2.2.1 _
          have HZ3 : Hid (wr.heap.size = (W2.setCell ⟨b, j, none⟩ (.string A)).heap.size) := by show _ = _; rw [heap_set_size, ← hW2, heap_set_size, HZ1.out]
          have HW2 : Hid _ := hW2
          clear hW2
          refine wpAnyH_ready (rs := [13]) (by kernel_rfl) (by simp) (AllReadyH.cons (by simp only [List.getElem?_toArray, List.getElem?_cons_succ, List.getElem?_cons_zero]; rfl) (fun K hK => ?_) AllReadyH.nil)
          refine step_plain rfl ?_
          go_simp
          rw [HW2.out]
          refine hK.out _ _ HS2 (fun _ => ?_)
          clear hK K
          try simp only [List.getElem_toArray, List.getElem_cons_succ, List.getElem_cons_zero, Act.put, List.setIfInBounds_toArray, List.set_cons_zero, List.set_cons_succ]
          refine wpAnyH_take (i := 14) (v := .pointer (some ⟨b, j, none⟩)) rfl (by kernel_rfl) (by kernel_rfl) (by kernel_rfl) (fun _ _ _ h => h) (Or.inl ⟨by rfl, by intro w _; go_simp⟩) HS2 ?_
          simp only [List.getElem_toArray, List.getElem_cons_succ, List.getElem_cons_zero, Act.put, List.setIfInBounds_toArray, List.set_cons_zero, List.set_cons_succ]
          refine wpAnyH_ready (rs := [15]) (by kernel_rfl) (by simp) (AllReadyH.cons (by simp only [List.getElem?_toArray, List.getElem?_cons_succ, List.getElem?_cons_zero]; rfl) (fun K hK => ?_) AllReadyH.nil)
          refine step_plain rfl ?_
          go_simp
          refine hK.out _ _ HS3 (fun _ => ?_)
          clear hK K
          try simp only [List.getElem_toArray, List.getElem_cons_succ, List.getElem_cons_zero, Act.put, List.setIfInBounds_toArray, List.set_cons_zero, List.set_cons_succ]
          refine wpAnyH_done (by kernel_rfl) ?_ _
          clear D1 D2 HS HS2 HS3 cA cB fA fB HW2 HT1 HD HT
          generalize W2.setCell ⟨b, j, none⟩ (.string A) = W3 at *
          go_wp2
          go_ret
          exact ⟨rfl, ⟨_, _, _, _, _, _, D3.out.same (fun _ _ => rfl) (Nat.le_refl _) (fun k hk => by rcases hk with hk | hk; exact .inl hk; exact .inr ⟨hk.1, by rw [← HZ3.out]; exact hk.2⟩)⟩, HT3.out⟩
end Go.Proofs.Ythlaackalmgfnaa
