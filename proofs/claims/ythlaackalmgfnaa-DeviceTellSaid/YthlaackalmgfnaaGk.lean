/- The document's device: Flush. -/
import Derived.Test.YthlaackalmgfnaaHb
namespace Go.Proofs.Ythlaackalmgfnaa
open Go.RowKit

theorem rsureN_len (r : Rv) (m : Nat) (hm : m ≤ r.st.length) : (rsureN r m).st.length = r.st.length := by simp [rsureN]; omega
theorem rsureN_at (r : Rv) (m : Nat) (hm : m < r.st.length) (hl : r.da.length = r.st.length) : ratD (rsureN r m) (m : Int) = ratD r (m : Int) := by
  unfold ratD ratN
  rw [rsureN_len r m (by omega), if_pos (by omega), if_pos (by omega)]
  have e1 : (rsureN r m).st.getD m 0 = r.st.getD m 0 := by
    show ((List.range m).map _ ++ r.st.drop m).getD m 0 = _
    rw [List.getD_eq_getElem?_getD, List.getElem?_append_right (by simp), List.getElem?_drop, List.getD_eq_getElem?_getD]
    simp
  have e2 : (rsureN r m).da.getD m [] = r.da.getD m [] := by
    show ((List.range m).map _ ++ r.da.drop m).getD m [] = _
    rw [List.getD_eq_getElem?_getD, List.getElem?_append_right (by simp), List.getElem?_drop, List.getD_eq_getElem?_getD]
    simp
  rw [Int.toNat_natCast, e1, e2]
  rfl
theorem rsureN_next (r : Rv) (m : Nat) (hm : m < r.st.length) (hl : r.da.length = r.st.length) (s : Int) (t : List UInt8) (h : ratD r (m : Int) = (s, t)) : { rsureN r m with st := (rsureN r m).st.set m s, da := (rsureN r m).da.set m t } = rsureN r (m + 1) := by
  have e1 : ((List.range m).map (fun i : Nat => (ratD r (i : Int)).1) ++ r.st.drop m).set m s = (List.range (m + 1)).map (fun i : Nat => (ratD r (i : Int)).1) ++ r.st.drop (m + 1) := by
    rw [List.set_append_right _ _ (by simp), List.length_map, List.length_range, Nat.sub_self, List.drop_eq_getElem_cons hm, List.set_cons_zero, List.range_succ]
    simp [h]
  have e2 : ((List.range m).map (fun i : Nat => (ratD r (i : Int)).2) ++ r.da.drop m).set m t = (List.range (m + 1)).map (fun i : Nat => (ratD r (i : Int)).2) ++ r.da.drop (m + 1) := by
    rw [List.set_append_right _ _ (by simp), List.length_map, List.length_range, Nat.sub_self, List.drop_eq_getElem_cons (by omega), List.set_cons_zero, List.range_succ]
    simp [h]
  unfold rsureN
  dsimp only
  rw [e1, e2]
theorem RefAt.noActs {w : World} {q : Nat} {r : Rv} {O : Nat → Prop} {a b ca cb : Nat} {cv kv : Value} (h : RefAt w q r O a b ca cb cv kv) : RefAt (w.setCell ⟨q, 2, none⟩ (.slice none 0 0)) q { r with acts := [] } O a b ca cb (.slice none 0 0) kv := by
  have h1 := (h.setActs (Below.refl _ _) [] (by simp) (World.ownsRow_nil w 0 _ _) ⟨rfl, rfl, rfl, Nat.le_refl _, fun _ _ _ => rfl⟩ (fun k hk => by simp [Value.ownBlock] at hk)).1
  refine h1.same (fun _ _ => rfl) (Nat.le_refl _) fun k hk => ?_
  rcases hk with hk | hk
  · exact hk
  · omega
set_option linter.unusedSimpArgs false in
set_option maxRecDepth 100000 in
set_option maxHeartbeats 3200000 in
theorem rflush_any {w : World} {q : Nat} {r : Rv} {O : Nat → Prop} (h : Ref w q r O) (hr : r.acts.length < 100000) (hkl : r.keep.length ≤ 1000000) (hf : r.fails = true → 0 ≤ r.left) :
    Calls Try.prog 41 #[.pointer (some ⟨q, 0, none⟩)] w fun e w' => e = .returned (.int .i64 (rflushD r).1) ∧ Ref w' q (rflushD r).2 O ∧ Turn O w w' := by
  have HR : Hid (Ref w q r O) := h
  cases ho : r.off with
  | true =>
    have he : rflushD r = (43, r) := by unfold rflushD; rw [ho]; rfl
    rw [he]
    obtain ⟨a, b, ca, cb, cv, kv, h⟩ := h
    obtain ⟨-, -, -, c3, -⟩ := h.c
    rw [ho] at c3
    clear h he ho hr hkl hf
    go_enter Try.func41, Try.ntmps41
    go_wp2
    go_ret
    exact ⟨rfl, HR.out, Turn.refl _ _⟩
  | false =>
    have HDn : Hid (Calls Try.prog 64 #[.pointer (some ⟨q, 0, none⟩)] w fun e w' => e = .returned (.int .i64 (rdoneD r).1) ∧ Ref w' q (rdoneD r).2 O ∧ Turn O w w') := rdone_any h (by omega) ho hkl hf
    have he : rflushD r = if (rdoneD r).1 ≠ 0 then rdoneD r else (0, rsureD (rdoneD r).2) := by unfold rflushD; rw [ho]; rfl
    rw [he]
    have HAc : Hid ((rdoneD r).2.acts.length < 1000000) := by
      have e : (rdoneD r).2.acts.length ≤ r.acts.length := by
        unfold rdoneD
        split
        · exact Nat.le_refl _
        · split
          · exact Nat.le_refl _
          · exact Nat.zero_le _
      show _ < _
      omega
    obtain ⟨a0, b0, ca0, cb0, cv0, kv0, h⟩ := h
    obtain ⟨-, -, -, c3, -⟩ := h.c
    rw [ho] at c3
    clear h he ho hr hkl hf HR
    generalize rdoneD r = y at *
    obtain ⟨E, r⟩ := y
    dsimp only at HDn HAc ⊢
    by_cases hE : E = 0
    · subst hE
      rw [if_neg (by simp)]
      go_enter Try.func41, Try.ntmps41
      go_wp2_with fail
      refine Calls.mono HDn.out ?_
      rintro e w1 ⟨rfl, h1, ht1⟩
      have HT1 : Hid _ := ht1
      obtain ⟨a, b, ca, cb, cv, kv, h1⟩ := h1
      have hsm := h1.small
      have HO : Hid (O q ∧ O a ∧ O b ∧ q < w1.heap.size ∧ a < w1.heap.size ∧ b < w1.heap.size) := h1.q_
      have HLd : Hid (r.da.length = r.st.length) := h1.len
      have HI0 : Hid (RefAt w1 q (rsureN r 0) O a b ca cb cv kv) := by
        have e : rsureN r 0 = r := by unfold rsureN; simp
        rw [e]; exact h1
      obtain ⟨n, hn⟩ : ∃ n, r.st.length = n := ⟨_, rfl⟩
      have HN : Hid (r.st.length = n) := hn
      rw [hn] at hsm
      clear h1 ht1 HDn c3 hn
      go_wp2
      go_loopw [4] (fun i wr => ∃ m : Nat, m ≤ n ∧ i = .int .i64 m ∧ RefAt wr q (rsureN r m) O a b ca cb cv kv ∧ Turn O w wr) (fun i _ => n - (intOf i).toNat)
      case atStart => exact ⟨0, Nat.zero_le _, rfl, HI0.out, HT1.out⟩
      case round =>
        obtain ⟨m, hm, rfl, hD, ht⟩ := hrel
        clear HI0 HT1
        have HLm : Hid ((rsureN r m).st.length = n) := by show _ = _; rw [rsureN_len r m (by rw [HN.out]; exact hm), HN.out]
        obtain ⟨c0, c1, -⟩ := hD.c
        rw [HLm.out] at c0 c1
        have HD : Hid _ := hD
        have HT : Hid _ := ht
        clear ht
        by_cases hlt : m < n
        · have hlt2 : (m : Int) < (n : Int) := by omega
          obtain ⟨s1, t1, hst⟩ : ∃ s1 t1, ratD r (m : Int) = (s1, t1) := ⟨_, _, rfl⟩
          have HNx : Hid ({ rsureN r m with st := (rsureN r m).st.set m s1, da := (rsureN r m).da.set m t1 } = rsureN r (m + 1)) := rsureN_next r m (by rw [HN.out]; exact hlt) HLd.out s1 t1 hst
          have HLn : Hid ((rsureN r (m + 1)).st.length = n) := by show _ = _; rw [rsureN_len r (m + 1) (by rw [HN.out]; omega), HN.out]
          have HAtm : Hid (∀ W0, RefAt W0 q (rsureN r m) O a b ca cb cv kv → Calls Try.prog 47 #[.pointer (some ⟨q, 0, none⟩), .int .i64 (m : Int)] W0 fun e w' => e = .returned (.tuple #[.int .i64 s1, .string (S t1)]) ∧ Below W0.heap.size W0 w') := fun W0 hW => by
            have := rat_any ⟨_, _, _, _, _, _, hW⟩ (m : Int) (show (rsureN r m).acts.length < 1000000 from HAc.out)
            rw [rsureN_at r m (by rw [HN.out]; exact hlt) HLd.out, hst] at this
            exact this
          clear hD hst
          go_wp2
          refine wp_region_held (S := fun w' => w'.cell? ⟨q, 0, none⟩ = some (.slice (some ⟨a, 0, none⟩) n ca) ∧ w'.cell? ⟨q, 1, none⟩ = some (.slice (some ⟨b, 0, none⟩) n cb)) (by kernel_rfl) ?_
          change wpAnyH _ _ _ _ _ _ _ _ (World.drew _)
          have HS : wr.drew.cell? ⟨q, 0, none⟩ = some (.slice (some ⟨a, 0, none⟩) n ca) ∧ wr.drew.cell? ⟨q, 1, none⟩ = some (.slice (some ⟨b, 0, none⟩) n cb) := ⟨c0, c1⟩
          have D1 : Hid (RefAt wr.drew q (rsureN r m) O a b ca cb cv kv) := HD.out.below (Below.refl _ _).drew
          have HT1 : Hid (Turn O w wr.drew) := HT.out.drew
          have HAt : Hid (∀ w1, Below wr.drew.heap.size wr.drew w1 → True) := fun _ _ => trivial
          generalize wr.drew = W0 at *
          refine wpAnyH_take (i := 0) (v := .pointer (some ⟨q, 0, none⟩)) rfl (by kernel_rfl) (by kernel_rfl) (by kernel_rfl) (fun _ _ _ h => h) (Or.inl ⟨by rfl, by intro w _; go_simp⟩) HS ?_
          simp only [List.getElem_toArray, List.getElem_cons_succ, List.getElem_cons_zero, Act.put, List.setIfInBounds_toArray, List.set_cons_zero, List.set_cons_succ]
          refine wpAnyH_take (i := 1) (v := .pointer (some ⟨q, 0, none⟩)) rfl (by kernel_rfl) (by kernel_rfl) (by kernel_rfl) (fun _ _ _ h => h) (Or.inl ⟨by rfl, by intro w _; go_simp⟩) HS ?_
          simp only [List.getElem_toArray, List.getElem_cons_succ, List.getElem_cons_zero, Act.put, List.setIfInBounds_toArray, List.set_cons_zero, List.set_cons_succ]
          refine wpAnyH_take (i := 2) (v := .pointer (some ⟨q, 0, none⟩)) rfl (by kernel_rfl) (by kernel_rfl) (by kernel_rfl) (fun _ _ _ h => h) (Or.inl ⟨by rfl, by intro w _; go_simp⟩) HS ?_
          simp only [List.getElem_toArray, List.getElem_cons_succ, List.getElem_cons_zero, Act.put, List.setIfInBounds_toArray, List.set_cons_zero, List.set_cons_succ]
          refine wpAnyH_take (i := 3) (v := .slice (some ⟨a, 0, none⟩) n ca) rfl (by kernel_rfl) (by kernel_rfl) (by kernel_rfl) (fun _ _ _ h => h) (Or.inl ⟨by rfl, by intro w hw; have hw : w.cell? ⟨q, 0, none⟩ = some (.slice (some ⟨a, 0, none⟩) n ca) ∧ w.cell? ⟨q, 1, none⟩ = some (.slice (some ⟨b, 0, none⟩) n cb) := hw; obtain ⟨hw1, hw2⟩ := hw; go_simp⟩) HS ?_
          simp only [List.getElem_toArray, List.getElem_cons_succ, List.getElem_cons_zero, Act.put, List.setIfInBounds_toArray, List.set_cons_zero, List.set_cons_succ]
          refine wpAnyH_take (i := 4) (v := .int .i64 (m : Int)) rfl (by kernel_rfl) (by kernel_rfl) (by kernel_rfl) (fun _ _ _ h => h) (Or.inl ⟨by rfl, by intro w _; go_simp⟩) HS ?_
          simp only [List.getElem_toArray, List.getElem_cons_succ, List.getElem_cons_zero, Act.put, List.setIfInBounds_toArray, List.set_cons_zero, List.set_cons_succ]
          refine wpAnyH_take (i := 5) (v := .pointer (some ⟨q, 0, none⟩)) rfl (by kernel_rfl) (by kernel_rfl) (by kernel_rfl) (fun _ _ _ h => h) (Or.inl ⟨by rfl, by intro w _; go_simp⟩) HS ?_
          simp only [List.getElem_toArray, List.getElem_cons_succ, List.getElem_cons_zero, Act.put, List.setIfInBounds_toArray, List.set_cons_zero, List.set_cons_succ]
          refine wpAnyH_take (i := 6) (v := .pointer (some ⟨q, 0, none⟩)) rfl (by kernel_rfl) (by kernel_rfl) (by kernel_rfl) (fun _ _ _ h => h) (Or.inl ⟨by rfl, by intro w _; go_simp⟩) HS ?_
          simp only [List.getElem_toArray, List.getElem_cons_succ, List.getElem_cons_zero, Act.put, List.setIfInBounds_toArray, List.set_cons_zero, List.set_cons_succ]
          refine wpAnyH_take (i := 7) (v := .pointer (some ⟨q, 1, none⟩)) rfl (by kernel_rfl) (by kernel_rfl) (by kernel_rfl) (fun _ _ _ h => h) (Or.inl ⟨by rfl, by intro w _; go_simp⟩) HS ?_
          simp only [List.getElem_toArray, List.getElem_cons_succ, List.getElem_cons_zero, Act.put, List.setIfInBounds_toArray, List.set_cons_zero, List.set_cons_succ]
          refine wpAnyH_take (i := 8) (v := .slice (some ⟨b, 0, none⟩) n cb) rfl (by kernel_rfl) (by kernel_rfl) (by kernel_rfl) (fun _ _ _ h => h) (Or.inl ⟨by rfl, by intro w hw; have hw : w.cell? ⟨q, 0, none⟩ = some (.slice (some ⟨a, 0, none⟩) n ca) ∧ w.cell? ⟨q, 1, none⟩ = some (.slice (some ⟨b, 0, none⟩) n cb) := hw; obtain ⟨hw1, hw2⟩ := hw; go_simp⟩) HS ?_
          simp only [List.getElem_toArray, List.getElem_cons_succ, List.getElem_cons_zero, Act.put, List.setIfInBounds_toArray, List.set_cons_zero, List.set_cons_succ]
          refine wpAnyH_take (i := 9) (v := .int .i64 (m : Int)) rfl (by kernel_rfl) (by kernel_rfl) (by kernel_rfl) (fun _ _ _ h => h) (Or.inl ⟨by rfl, by intro w _; go_simp⟩) HS ?_
          simp only [List.getElem_toArray, List.getElem_cons_succ, List.getElem_cons_zero, Act.put, List.setIfInBounds_toArray, List.set_cons_zero, List.set_cons_succ]
          refine wpAnyH_take (i := 10) (v := .pointer (some ⟨q, 0, none⟩)) rfl (by kernel_rfl) (by kernel_rfl) (by kernel_rfl) (fun _ _ _ h => h) (Or.inl ⟨by rfl, by intro w _; go_simp⟩) HS ?_
          simp only [List.getElem_toArray, List.getElem_cons_succ, List.getElem_cons_zero, Act.put, List.setIfInBounds_toArray, List.set_cons_zero, List.set_cons_succ]
          refine wpAnyH_take (i := 11) (v := .int .i64 (m : Int)) rfl (by kernel_rfl) (by kernel_rfl) (by kernel_rfl) (fun _ _ _ h => h) (Or.inl ⟨by rfl, by intro w _; go_simp⟩) HS ?_
          simp only [List.getElem_toArray, List.getElem_cons_succ, List.getElem_cons_zero, Act.put, List.setIfInBounds_toArray, List.set_cons_zero, List.set_cons_succ]
          refine wpAnyH_ready (rs := [12]) (by kernel_rfl) (by simp) (AllReadyH.cons (by simp only [List.getElem?_toArray, List.getElem?_cons_succ, List.getElem?_cons_zero]; rfl) (fun K hK => ?_) AllReadyH.nil)
          refine step_plain rfl ?_
          go_simp
          refine (HAtm.out W0 D1.out).mono ?_
          rintro e W1 ⟨rfl, hb1⟩
          replace D1 : Hid (RefAt W1 q (rsureN r m) O a b ca cb cv kv) := D1.out.below hb1
          replace HT1 : Hid (Turn O w W1) := HT1.out.then_below hb1
          replace HS : W1.cell? ⟨q, 0, none⟩ = some (.slice (some ⟨a, 0, none⟩) n ca) ∧ W1.cell? ⟨q, 1, none⟩ = some (.slice (some ⟨b, 0, none⟩) n cb) := by
            obtain ⟨q0, q1, -⟩ := D1.out.c
            rw [HLm.out] at q0 q1
            exact ⟨q0, q1⟩
          clear hb1
          refine hK.out _ _ HS (fun _ => ?_)
          clear hK K
          try simp only [List.getElem_toArray, List.getElem_cons_succ, List.getElem_cons_zero, Act.put, List.setIfInBounds_toArray, List.set_cons_zero, List.set_cons_succ]
          refine wpAnyH_take (i := 13) (v := .tuple #[.int .i64 s1, .string (S t1)]) rfl (by kernel_rfl) (by kernel_rfl) (by kernel_rfl) (fun _ _ _ h => h) (Or.inl ⟨by rfl, by intro w _; go_simp⟩) HS ?_
          simp only [List.getElem_toArray, List.getElem_cons_succ, List.getElem_cons_zero, Act.put, List.setIfInBounds_toArray, List.set_cons_zero, List.set_cons_succ]
          refine wpAnyH_take (i := 14) (v := .int .i64 s1) rfl (by kernel_rfl) (by kernel_rfl) (by kernel_rfl) (fun _ _ _ h => h) (Or.inl ⟨by rfl, by intro w _; go_simp⟩) HS ?_
          simp only [List.getElem_toArray, List.getElem_cons_succ, List.getElem_cons_zero, Act.put, List.setIfInBounds_toArray, List.set_cons_zero, List.set_cons_succ]
          refine wpAnyH_take (i := 15) (v := .string (S t1)) rfl (by kernel_rfl) (by kernel_rfl) (by kernel_rfl) (fun _ _ _ h => h) (Or.inl ⟨by rfl, by intro w _; go_simp⟩) HS ?_
          simp only [List.getElem_toArray, List.getElem_cons_succ, List.getElem_cons_zero, Act.put, List.setIfInBounds_toArray, List.set_cons_zero, List.set_cons_succ]
          refine wpAnyH_take (i := 16) (v := .pointer (some ⟨a, m, none⟩)) rfl (by kernel_rfl) (by kernel_rfl) (by kernel_rfl) (fun _ _ _ h => h) (Or.inl ⟨by rfl, by intro w _; go_simp⟩) HS ?_
          simp only [List.getElem_toArray, List.getElem_cons_succ, List.getElem_cons_zero, Act.put, List.setIfInBounds_toArray, List.set_cons_zero, List.set_cons_succ]
          have cA := D1.out.sa (k := m) (by rw [HLm.out]; exact hlt)
          have fA : W1.frozen? ⟨a, m, none⟩ = false := D1.out.st.frozen m
          have D2 : Hid _ := D1.out.setSt m (by rw [HLm.out]; exact hlt) s1
          obtain ⟨W2, hW2⟩ : ∃ W2, W1.setCell ⟨a, m, none⟩ (.int .i64 s1) = W2 := ⟨_, rfl⟩
          rw [hW2] at D2
          have HL2 : Hid (((rsureN r m).st.set m s1).length = n) := by show _ = _; rw [List.length_set]; exact HLm.out
          have HS2 : W2.cell? ⟨q, 0, none⟩ = some (.slice (some ⟨a, 0, none⟩) n ca) ∧ W2.cell? ⟨q, 1, none⟩ = some (.slice (some ⟨b, 0, none⟩) n cb) := by
            obtain ⟨q0, q1, -⟩ := D2.out.c
            dsimp only at q0 q1
            rw [HL2.out] at q0 q1
            exact ⟨q0, q1⟩
          have cB := D2.out.dt (k := m) (by show m < (List.set _ _ _).length; rw [HL2.out]; exact hlt)
          have fB : W2.frozen? ⟨b, m, none⟩ = false := D2.out.da.frozen m
          have D3 : Hid (RefAt (W2.setCell ⟨b, m, none⟩ (.string (S t1))) q (rsureN r (m + 1)) O a b ca cb cv kv) := by
            have := D2.out.setDa m (by show m < (List.set _ _ _).length; rw [HL2.out]; exact hlt) t1
            rw [← HNx.out]
            exact this
          have HS3 : (W2.setCell ⟨b, m, none⟩ (.string (S t1))).cell? ⟨q, 0, none⟩ = some (.slice (some ⟨a, 0, none⟩) n ca) ∧ (W2.setCell ⟨b, m, none⟩ (.string (S t1))).cell? ⟨q, 1, none⟩ = some (.slice (some ⟨b, 0, none⟩) n cb) := by
            obtain ⟨q0, q1, -⟩ := D3.out.c
            rw [HLn.out] at q0 q1
            exact ⟨q0, q1⟩
          have HT3 : Hid (Turn O w (W2.setCell ⟨b, m, none⟩ (.string (S t1)))) := by
            rw [← hW2]
            exact (HT1.out.setCell HO.out.2.1 _).setCell HO.out.2.2.1 _
          have HW2 : Hid _ := hW2
          clear hW2
          refine wpAnyH_ready (rs := [17]) (by kernel_rfl) (by simp) (AllReadyH.cons (by simp only [List.getElem?_toArray, List.getElem?_cons_succ, List.getElem?_cons_zero]; rfl) (fun K hK => ?_) AllReadyH.nil)
          refine step_plain rfl ?_
          go_simp
          rw [HW2.out]
          refine hK.out _ _ HS2 (fun _ => ?_)
          clear hK K
          try simp only [List.getElem_toArray, List.getElem_cons_succ, List.getElem_cons_zero, Act.put, List.setIfInBounds_toArray, List.set_cons_zero, List.set_cons_succ]
          refine wpAnyH_take (i := 18) (v := .pointer (some ⟨b, m, none⟩)) rfl (by kernel_rfl) (by kernel_rfl) (by kernel_rfl) (fun _ _ _ h => h) (Or.inl ⟨by rfl, by intro w _; go_simp⟩) HS2 ?_
          simp only [List.getElem_toArray, List.getElem_cons_succ, List.getElem_cons_zero, Act.put, List.setIfInBounds_toArray, List.set_cons_zero, List.set_cons_succ]
          refine wpAnyH_ready (rs := [19]) (by kernel_rfl) (by simp) (AllReadyH.cons (by simp only [List.getElem?_toArray, List.getElem?_cons_succ, List.getElem?_cons_zero]; rfl) (fun K hK => ?_) AllReadyH.nil)
          refine step_plain rfl ?_
          go_simp
          refine hK.out _ _ HS3 (fun _ => ?_)
          clear hK K
          try simp only [List.getElem_toArray, List.getElem_cons_succ, List.getElem_cons_zero, Act.put, List.setIfInBounds_toArray, List.set_cons_zero, List.set_cons_succ]
          refine wpAnyH_done (by kernel_rfl) ?_ _
          clear D1 D2 HS HS2 HS3 cA cB fA fB HW2 HT1 HD HT HNx
          generalize W2.setCell ⟨b, m, none⟩ (.string (S t1)) = W3 at *
          go_wp2
          go_roundw
          case rel => exact ⟨m + 1, by omega, by go_num, D3.out, HT3.out⟩
          case measure => simp [intOf]; omega
        · obtain rfl : m = n := by omega
          have hlt2 : ¬ ((m : Nat) : Int) < (m : Int) := by omega
          obtain ⟨-, -, c2, -⟩ := hD.c
          have f2 : wr.frozen? ⟨q, 2, none⟩ = false := frozen_of_row _ _ _ _ _ hD.cells
          have HRR : Hid (RefAt (wr.setCell ⟨q, 2, none⟩ (.slice none 0 0)) q (rsureD r) O a b ca cb (.slice none 0 0) kv) := by
            have := hD.noActs
            have e : rsureD r = { rsureN r m with acts := [] } := by unfold rsureD; rw [HN.out]
            rw [e]
            exact this
          clear hD HAc
          go_wp2
          go_ret
          exact ⟨rfl, ⟨_, _, _, _, _, _, HRR.out⟩, HT.out.setCell HO.out.1 _⟩
    · rw [if_pos hE]
      have hE2 : (E != 0) = true := by simpa using hE
      go_enter Try.func41, Try.ntmps41
      go_wp2_with fail
      refine Calls.mono HDn.out ?_
      rintro e w1 ⟨rfl, h1⟩
      have H1 : Hid _ := h1
      clear h1 HDn c3
      go_wp2
      go_ret
      exact ⟨rfl, H1.out⟩
end Go.Proofs.Ythlaackalmgfnaa
