/- Both devices beside one another: what is asked of both; a list that is copied. -/
import Derived.Test.YthlaackalmgfnaaGk
import Derived.Test.YthlaackalmgfnaaGl
import Derived.Test.YthlaackalmgfnaaHc
import Derived.Test.YthlaackalmgfnaaGo
/- The law's By on the document's device; both devices beside one another; the law's Same. -/
namespace Go.Proofs.Ythlaackalmgfnaa
open Go.RowKit

theorem ref_by {wr : World} {q : Nat} {r : Rv} {O : Nat → Prop} (h : Ref wr q r O) (x : DoX) (hx : x.ok wr) (hxk : x.k ≠ [] → ∀ i, x.kv.ownBlock = some i → ¬ O i) (hhi : ∀ k, O k → k < wr.heap.size) (hl : x.k.length ≤ 1000000) (ha : r.acts.length < 100000) (hs : r.begun < 1000000) (hkl : r.keep.length ≤ 1000000) (hf : r.fails = true → 0 ≤ r.left) :
    Calls Try.prog 13 #[.pointer (some ⟨q, 0, none⟩), .agg x.v] wr (Tells fun e w' => e = (byR r x).1 ∧ Ref w' q (byR r x).2 (grow O wr w') ∧ Turn O wr w') := by
  have tell : ∀ {w1 : World} {e : Ending} {w' : World} {R : Int × Rv}, Below wr.heap.size wr w1 → byR r x = R → e = .returned (.int .i64 R.1) → Ref w' q R.2 (grow O w1 w') → Turn O w1 w' → TellsK wr.heap.size w1 (fun e w' => e = (byR r x).1 ∧ Ref w' q (byR r x).2 (grow O wr w') ∧ Turn O wr w') e w' := fun {w1 e w' R} hb hR he ho ht => by
    refine ⟨R.1, he, ⟨by rw [hR], by rw [hR]; exact ho.mono (grow_sub hb.size), (Turn.of_below hb).trans ht fun _ _ h => h⟩, fun k hk1 hk2 => ht.block k hk2 (fun hO => ?_)⟩
    have := hhi k hO
    omega
  have n0 : ∀ {w1 : World}, Below wr.heap.size wr w1 → Ref w1 q r O := fun hb => h.below hb
  have g0 : ∀ {w1 w' : World} {e : Rv}, Ref w' q e O → Ref w' q e (grow O w1 w') := fun h => h.mono fun _ h => .inl h
  have hm : x.q % 13 < 13 := Nat.mod_lt _ (by omega)
  by_cases h0 : x.q % 13 < 4
  · have e : byR r x = rwriteD r x.i (blockT x.s) := by
      unfold byR
      rw [if_neg (by omega), if_neg (by omega), if_neg (by omega), if_neg (by omega), if_neg (by omega), if_neg (by omega), if_neg (by omega)]
    exact by_0 h0 hx.q fun w1 hb => (rwrite_any (n0 hb) x.i _ ha hkl hf).mono fun _ _ hh => tell hb e hh.1 hh.2.1 hh.2.2
  · have hc : x.q % 13 = 4 ∨ x.q % 13 = 5 ∨ x.q % 13 = 6 ∨ x.q % 13 = 7 ∨ x.q % 13 = 8 ∨ x.q % 13 = 9 ∨ x.q % 13 = 10 ∨ x.q % 13 = 11 ∨ x.q % 13 = 12 := by omega
    rcases hc with hc | hc | hc | hc | hc | hc | hc | hc | hc
    · have e : byR r x = rwriteD r x.i x.s := by unfold byR; rw [if_neg (by omega), if_pos hc]
      exact by_4 hc hx.q fun w1 hb => (rwrite_any (n0 hb) x.i _ ha hkl hf).mono fun _ _ hh => tell hb e hh.1 hh.2.1 hh.2.2
    · have e : byR r x = reraseD r x.i := by unfold byR; rw [if_neg (by omega), if_neg (by omega), if_pos (by omega)]
      exact by_5 hc hx.q fun w1 hb => (rerase_any (n0 hb) x.i ha hkl hf).mono fun _ _ hh => tell hb e hh.1 hh.2.1 hh.2.2
    · have e : byR r x = reraseD r x.i := by unfold byR; rw [if_neg (by omega), if_neg (by omega), if_pos (by omega)]
      exact by_6 hc hx.q fun w1 hb => (rerase_any (n0 hb) x.i ha hkl hf).mono fun _ _ hh => tell hb e hh.1 hh.2.1 hh.2.2
    · have e : byR r x = rflushD r := by unfold byR; rw [if_neg (by omega), if_neg (by omega), if_neg (by omega), if_pos hc]
      exact by_7 hc hx.q fun w1 hb => (rflush_any (n0 hb) ha hkl hf).mono fun _ _ hh => tell hb e hh.1 (g0 hh.2.1) hh.2.2
    · have e : byR r x = rcrashE r x.k := by unfold byR; rw [if_neg (by omega), if_neg (by omega), if_neg (by omega), if_neg (by omega), if_pos hc]
      exact by_8 hc hx.q fun w1 hb => (rcrash_any (n0 hb) (by omega) (hx.below hb).k (fun hk i hi _ hO => hxk hk i hi hO) hl).mono fun _ _ hh => tell hb e hh.1 (g0 hh.2.1) hh.2.2
    · have e : byR r x = rstartD r := by unfold byR; rw [if_neg (by omega), if_neg (by omega), if_neg (by omega), if_neg (by omega), if_neg (by omega), if_pos (by omega)]
      exact by_9 hc hx.q fun w1 hb => (rstart_any (n0 hb) hs).mono fun _ _ hh => tell hb e hh.1 (g0 hh.2.1) hh.2.2
    · have e : byR r x = rstartD r := by unfold byR; rw [if_neg (by omega), if_neg (by omega), if_neg (by omega), if_neg (by omega), if_neg (by omega), if_pos (by omega)]
      exact by_10 hc hx.q fun w1 hb => (rstart_any (n0 hb) hs).mono fun _ _ hh => tell hb e hh.1 (g0 hh.2.1) hh.2.2
    · have e : byR r x = rfailD r x.n x.k := by unfold byR; rw [if_neg (by omega), if_neg (by omega), if_neg (by omega), if_neg (by omega), if_neg (by omega), if_neg (by omega), if_pos hc]
      exact by_11 hc hx.q fun w1 hb => (rfail_any (n0 hb) x.n hx.n (hx.below hb).k hl).mono fun _ _ hh => tell hb e hh.1 hh.2.1 hh.2.2
    · have e : byR r x = rtamperD r x.i x.n (dataT x.n x.s) := by unfold byR; rw [if_pos hc]
      exact by_12 hc hx.q fun w1 hb => (rtamper_any (n0 hb) x.i x.n (dataT x.n x.s) ha).mono fun _ _ hh => tell hb e hh.1 hh.2.1 hh.2.2
/-- The same of both: a device, and the document's of it. -/
structure Both (w : World) (p q : Nat) (d : Dv) (r : Rv) (P O : Nat → Prop) (wr : World) : Prop where
  below : Below w.heap.size w wr
  dev : Dev wr p d P
  ref : Ref wr q r O
  sim : Sim d r
  sane : Sane d
  lo : ∀ k, P k ∨ O k → w.heap.size ≤ k ∧ k < wr.heap.size
  apart : ∀ k, P k → ¬ O k
theorem Sim.left {d : Dv} {r : Rv} (h : Sim d r) : r.fails = true → 0 ≤ r.left := fun e => by
  have e1 := h.fail
  rw [e] at e1
  cases hf : d.fail with
  | none => rw [hf] at e1; cases e1
  | some x =>
    obtain ⟨n, k⟩ := x
    rw [(h.fl n k hf).1]
    omega
theorem Sim.few {d : Dv} {r : Rv} (h : Sim d r) : r.acts.length = d.acts.length ∧ r.begun = d.starts ∧ r.st.length = d.sure.length := ⟨by rw [h.acts]; simp, h.begun, by rw [h.st]; simp⟩
end Go.Proofs.Ythlaackalmgfnaa

/- The law's Same: a device and the document's of it. -/
namespace Go.Proofs.Ythlaackalmgfnaa
open Go.RowKit

theorem ints_true {w : World} {v1 v2 : Value} {l : List Int} (h1 : IntsAt w v1 l) (h2 : IntsAt w v2 l) (hl : l.length ≤ 1000000) : Calls Try.prog 14 #[v1, v2] w fun e w' => e = .returned (.bool true) ∧ Below w.heap.size w w' := by
  have := ints_cmp h1 h2 hl
  rw [decide_eq_true rfl] at this
  exact this
/-- What is told of both. -/
structure Twin (p q : Nat) (d : Dv) (n : Nat) (wr : World) : Prop where
  read : ∀ i : Int, Calls Try.prog 21 #[.pointer (some ⟨p, 0, none⟩), .int .i64 i] wr fun e w' => e = .returned (.tuple #[.string (S (readD d i).1), .int .i64 (readD d i).2]) ∧ w' = wr
  rread : ∀ i : Int, Calls Try.prog 46 #[.pointer (some ⟨q, 0, none⟩), .int .i64 i] wr fun e w' => e = .returned (.tuple #[.string (S (readD d i).1), .int .i64 (readD d i).2]) ∧ Below wr.heap.size wr w'
  rat : ∀ i : Int, Calls Try.prog 47 #[.pointer (some ⟨q, 0, none⟩), .int .i64 i] wr fun e w' => ∃ t, e = .returned (.tuple #[.int .i64 (stAtD d i), .string t]) ∧ Below wr.heap.size wr w'
  state : ∀ i : Int, Calls Try.prog 23 #[.pointer (some ⟨p, 0, none⟩), .int .i64 i] wr fun e w' => e = .returned (.int .i64 (stAtD d i)) ∧ w' = wr
  len : Calls Try.prog 22 #[.pointer (some ⟨p, 0, none⟩)] wr fun e w' => e = .returned (.int .i64 (n : Int)) ∧ w' = wr
  states : Calls Try.prog 24 #[.pointer (some ⟨p, 0, none⟩)] wr fun e w' => ∃ v, e = .returned v ∧ IntsAt w' v (statesD d) ∧ (∀ i, v.ownBlock = some i → wr.heap.size ≤ i ∧ i < w'.heap.size) ∧ Below wr.heap.size wr w'
  rstates : Calls Try.prog 48 #[.pointer (some ⟨q, 0, none⟩)] wr fun e w' => ∃ v, e = .returned v ∧ IntsAt w' v (statesD d) ∧ (∀ i, v.ownBlock = some i → wr.heap.size ≤ i ∧ i < w'.heap.size) ∧ Below wr.heap.size wr w'
  pending : Calls Try.prog 25 #[.pointer (some ⟨p, 0, none⟩)] wr fun e w' => e = .returned (.int .i64 (d.acts.length : Int)) ∧ w' = wr
  up : Calls Try.prog 26 #[.pointer (some ⟨p, 0, none⟩)] wr fun e w' => e = .returned (.bool d.up) ∧ w' = wr
  starts : Calls Try.prog 27 #[.pointer (some ⟨p, 0, none⟩)] wr fun e w' => e = .returned (.int .i64 (d.starts : Int)) ∧ w' = wr
theorem Both.twin {w wr : World} {p q : Nat} {d : Dv} {r : Rv} {P O : Nat → Prop} (h : Both w p q d r P O wr) (ha : d.acts.length < 1000000) {wx : World} (hb : Below wr.heap.size wr wx) : Twin p q d r.st.length wx := by
  have hd := h.dev.below hb
  have hr := h.ref.below hb
  have f := h.sim.few
  refine ⟨fun i => read_dev hd i, fun i => ?_, fun i => ?_, fun i => state_dev hd i, ?_, states_dev hd, ?_, pending_dev hd, up_dev hd, starts_dev hd⟩
  · have := rread_any hr i (by rw [f.1]; exact ha)
    rw [h.sim.read h.sane i] at this
    exact this
  · refine (rat_any hr i (by rw [f.1]; exact ha)).mono fun e w' hh => ⟨S (ratD r i).2, ?_, hh.2⟩
    rw [hh.1, h.sim.state h.sane i]
  · rw [f.2.2]; exact len_dev hd
  · have := rstates_any hr (by rw [f.1]; exact ha)
    rw [h.sim.states h.sane] at this
    exact this
set_option linter.unusedSimpArgs false in
set_option maxRecDepth 100000 in
set_option maxHeartbeats 3200000 in
theorem same_any {w0 w : World} {p q : Nat} {d : Dv} {r : Rv} {P O : Nat → Prop} (h : Both w0 p q d r P O w) (ha : d.acts.length < 1000000) :
    Calls Try.prog 15 #[.pointer (some ⟨p, 0, none⟩), .pointer (some ⟨q, 0, none⟩)] w fun e w' => e = .returned (.bool true) ∧ Below w.heap.size w w' := by
  have HD : Hid (∀ wx, Below w.heap.size w wx → Twin p q d r.st.length wx) := fun wx hb => h.twin ha hb
  obtain ⟨a, b, ca, cb, cv, kv, hr⟩ := h.ref
  have f := h.sim.few
  have hsm := hr.small
  have c0 := hr.c.1
  have HC2 : Hid (∀ wx, Below w.heap.size w wx → wx.cell? ⟨q, 2, none⟩ = some cv) := fun wx hb => (hr.below hb).c.2.2.1
  have HC3 : Hid (∀ wx, Below w.heap.size w wx → wx.cell? ⟨q, 3, none⟩ = some (.bool (!d.up))) := fun wx hb => by rw [← h.sim.off]; exact (hr.below hb).c.2.2.2.1
  have HC4 : Hid (∀ wx, Below w.heap.size w wx → wx.cell? ⟨q, 4, none⟩ = some (.int .i64 (d.starts : Int))) := fun wx hb => by rw [← f.2.1]; exact (hr.below hb).c.2.2.2.2.1
  have HCv : Hid (∃ x c, cv = .slice x d.acts.length c) := by rw [← f.1]; exact hr.sl
  have HSl : Hid ((statesD d).length ≤ 1000000) := by
    show _ ≤ _
    rw [statesD_len, h.sane.len, ← f.2.2]
    omega
  clear h hr f
  generalize r.st.length = n at *
  go_enter Try.func15, Try.ntmps15
  go_wp2
  go_loopw [6] (fun i wr => ∃ m : Nat, m ≤ n + 2 ∧ i = .int .i64 ((m : Int) - 1) ∧ Below w.heap.size w wr) (fun i _ => (n + 1 - intOf i).toNat)
  case atStart => exact ⟨0, by omega, rfl, Below.refl _ _⟩
  case round =>
    obtain ⟨m, hm, rfl, hB⟩ := hrel
    clear c0
    have HB : Hid _ := hB
    by_cases hlt : m < n + 2
    · have hlt2 : (m : Int) - 1 ≤ (n : Int) := by omega
      have HRd : Hid _ := (HD.out wr hB).read ((m : Int) - 1)
      have HRr : Hid _ := (HD.out wr hB).rread ((m : Int) - 1)
      clear hB HC2 HC3 HC4 HCv HSl
      go_wp2_with fail
      refine Calls.mono HRd.out ?_
      rintro e w1 ⟨rfl, hw1⟩
      subst hw1
      clear HRd
      go_wp2_with fail
      refine Calls.mono HRr.out ?_
      rintro e w2 ⟨rfl, hb2⟩
      have HB2 : Hid (Below w.heap.size w w2) := HB.out.trans (hb2.mono HB.out.size)
      have HAt : Hid _ := (HD.out w2 HB2.out).rat ((m : Int) - 1)
      clear hb2 HRr HB
      go_wp2_with fail
      refine Calls.mono HAt.out ?_
      rintro e w3 ⟨t, rfl, hb3⟩
      have HB3 : Hid (Below w.heap.size w w3) := HB2.out.trans (hb3.mono HB2.out.size)
      have HSt : Hid _ := (HD.out w3 HB3.out).state ((m : Int) - 1)
      clear hb3 HAt HB2 HD
      generalize S (readD d ((m : Int) - 1)).1 = A at *
      generalize (readD d ((m : Int) - 1)).2 = E at *
      generalize stAtD d ((m : Int) - 1) = T at *
      go_wp2_with fail
      refine Calls.mono HSt.out ?_
      rintro e w4 ⟨rfl, hw4⟩
      subst hw4
      clear HSt
      go_wp2
      go_roundw
      case rel => exact ⟨m + 1, by omega, by go_num, HB3.out⟩
      case measure => simp [intOf]; omega
    · obtain rfl : m = n + 2 := by omega
      have hlt2 : ¬ ((n + 2 : Nat) : Int) - 1 ≤ (n : Int) := by omega
      have HB0 : Hid (Below w.heap.size w wr.drew) := hB.drew
      clear hB HB
      go_wp2
      refine wp_region_held (S := fun w' => Below w.heap.size w w') (by kernel_rfl) ?_
      change wpAnyH _ _ _ _ _ _ _ _ (World.drew _)
      generalize wr.drew = W0 at *
      refine wpAnyH_take (i := 0) (v := .pointer (some ⟨p, 0, none⟩)) rfl (by kernel_rfl) (by kernel_rfl) (by kernel_rfl) (fun _ _ _ h => h) (Or.inl ⟨by rfl, by intro w' _; go_simp⟩) HB0.out ?_
      simp only [List.getElem_toArray, List.getElem_cons_succ, List.getElem_cons_zero, Act.put, List.setIfInBounds_toArray, List.set_cons_zero, List.set_cons_succ]
      refine wpAnyH_take (i := 2) (v := .int .i64 (n : Int)) rfl (by kernel_rfl) (by kernel_rfl) (by kernel_rfl) (fun _ _ _ h => h) (Or.inl ⟨by rfl, by intro w' _; go_simp⟩) HB0.out ?_
      simp only [List.getElem_toArray, List.getElem_cons_succ, List.getElem_cons_zero, Act.put, List.setIfInBounds_toArray, List.set_cons_zero, List.set_cons_succ]
      refine wpAnyH_ready (rs := [1]) (by kernel_rfl) (by simp) (AllReadyH.cons (by simp only [List.getElem?_toArray, List.getElem?_cons_succ, List.getElem?_cons_zero]; rfl) (fun K hK => ?_) AllReadyH.nil)
      refine step_plain rfl ?_
      go_simp
      refine Calls.mono ((HD.out _ HB0.out).len) ?_
      rintro e WL ⟨rfl, hWL⟩
      subst hWL
      refine hK.out _ _ HB0.out (fun _ => ?_)
      clear hK K
      try simp only [List.getElem_toArray, List.getElem_cons_succ, List.getElem_cons_zero, Act.put, List.setIfInBounds_toArray, List.set_cons_zero, List.set_cons_succ]
      refine wpAnyH_take (i := 3) (v := .bool true) rfl (by kernel_rfl) (by kernel_rfl) (by kernel_rfl) (fun _ _ _ h => h) (Or.inl ⟨by rfl, by intro w' _; go_simp⟩) HB0.out ?_
      simp only [List.getElem_toArray, List.getElem_cons_succ, List.getElem_cons_zero, Act.put, List.setIfInBounds_toArray, List.set_cons_zero, List.set_cons_succ]
      refine wpAnyH_take (i := 4) (v := .bool true) rfl (by kernel_rfl) (by kernel_rfl) (by kernel_rfl) (fun _ _ _ h => h) (Or.inl ⟨by rfl, by intro w' _; go_simp⟩) HB0.out ?_
      simp only [List.getElem_toArray, List.getElem_cons_succ, List.getElem_cons_zero, Act.put, List.setIfInBounds_toArray, List.set_cons_zero, List.set_cons_succ]
      refine wpAnyH_take (i := 5) (v := .pointer (some ⟨p, 0, none⟩)) rfl (by kernel_rfl) (by kernel_rfl) (by kernel_rfl) (fun _ _ _ h => h) (Or.inl ⟨by rfl, by intro w' _; go_simp⟩) HB0.out ?_
      simp only [List.getElem_toArray, List.getElem_cons_succ, List.getElem_cons_zero, Act.put, List.setIfInBounds_toArray, List.set_cons_zero, List.set_cons_succ]
      refine wpAnyH_take (i := 7) (v := .pointer (some ⟨q, 0, none⟩)) rfl (by kernel_rfl) (by kernel_rfl) (by kernel_rfl) (fun _ _ _ h => h) (Or.inl ⟨by rfl, by intro w' _; go_simp⟩) HB0.out ?_
      simp only [List.getElem_toArray, List.getElem_cons_succ, List.getElem_cons_zero, Act.put, List.setIfInBounds_toArray, List.set_cons_zero, List.set_cons_succ]
      refine wpAnyH_ready (rs := [6]) (by kernel_rfl) (by simp) (AllReadyH.cons (by simp only [List.getElem?_toArray, List.getElem?_cons_succ, List.getElem?_cons_zero]; rfl) (fun K hK => ?_) AllReadyH.nil)
      refine step_want (by rfl) ?_
      go_simp
      refine Calls.mono ((HD.out _ HB0.out).states) ?_
      rintro e W1 ⟨v1, rfl, hi1, hn1, hb1⟩
      have HB1 : Hid (Below w.heap.size w W1) := HB0.out.trans (hb1.mono HB0.out.size)
      have HI1 : Hid _ := hi1
      clear hi1 hn1 hb1
      refine hK.out _ _ HB1.out (fun _ => ?_)
      clear hK K
      try simp only [List.getElem_toArray, List.getElem_cons_succ, List.getElem_cons_zero, Act.put, List.setIfInBounds_toArray, List.set_cons_zero, List.set_cons_succ]
      refine wpAnyH_ready (rs := [8]) (by kernel_rfl) (by simp) (AllReadyH.cons (by simp only [List.getElem?_toArray, List.getElem?_cons_succ, List.getElem?_cons_zero]; rfl) (fun K hK => ?_) AllReadyH.nil)
      refine step_want (by rfl) ?_
      go_simp
      refine Calls.mono ((HD.out _ HB1.out).rstates) ?_
      rintro e W2 ⟨v2, rfl, hi2, hn2, hb2⟩
      have HB2 : Hid (Below w.heap.size w W2) := HB1.out.trans (hb2.mono HB1.out.size)
      have HI2 : Hid _ := hi2
      replace HI1 : Hid (IntsAt W2 v1 (statesD d)) := IntsAt.below HI1.out hb2
      clear hi2 hn2 hb2
      refine hK.out _ _ HB2.out (fun _ => ?_)
      clear hK K
      try simp only [List.getElem_toArray, List.getElem_cons_succ, List.getElem_cons_zero, Act.put, List.setIfInBounds_toArray, List.set_cons_zero, List.set_cons_succ]
      refine wpAnyH_ready (rs := [9]) (by kernel_rfl) (by simp) (AllReadyH.cons (by simp only [List.getElem?_toArray, List.getElem?_cons_succ, List.getElem?_cons_zero]; rfl) (fun K hK => ?_) AllReadyH.nil)
      refine step_want (by rfl) ?_
      go_simp
      refine Calls.mono (ints_true HI1.out HI2.out HSl.out) ?_
      rintro e W3 ⟨rfl, hb3⟩
      have HB3 : Hid (Below w.heap.size w W3) := HB2.out.trans (hb3.mono HB2.out.size)
      clear hb3 HI1 HI2
      refine hK.out _ _ HB3.out (fun _ => ?_)
      clear hK K
      try simp only [List.getElem_toArray, List.getElem_cons_succ, List.getElem_cons_zero, Act.put, List.setIfInBounds_toArray, List.set_cons_zero, List.set_cons_succ]
      refine wpAnyH_take (i := 10) (v := .bool true) rfl (by kernel_rfl) (by kernel_rfl) (by kernel_rfl) (fun _ _ _ h => h) (Or.inl ⟨by rfl, by intro w' _; go_simp⟩) HB3.out ?_
      simp only [List.getElem_toArray, List.getElem_cons_succ, List.getElem_cons_zero, Act.put, List.setIfInBounds_toArray, List.set_cons_zero, List.set_cons_succ]
      refine wpAnyH_take (i := 11) (v := .bool true) rfl (by kernel_rfl) (by kernel_rfl) (by kernel_rfl) (fun _ _ _ h => h) (Or.inl ⟨by rfl, by intro w' _; go_simp⟩) HB3.out ?_
      simp only [List.getElem_toArray, List.getElem_cons_succ, List.getElem_cons_zero, Act.put, List.setIfInBounds_toArray, List.set_cons_zero, List.set_cons_succ]
      refine wpAnyH_take (i := 12) (v := .pointer (some ⟨p, 0, none⟩)) rfl (by kernel_rfl) (by kernel_rfl) (by kernel_rfl) (fun _ _ _ h => h) (Or.inl ⟨by rfl, by intro w' _; go_simp⟩) HB3.out ?_
      simp only [List.getElem_toArray, List.getElem_cons_succ, List.getElem_cons_zero, Act.put, List.setIfInBounds_toArray, List.set_cons_zero, List.set_cons_succ]
      refine wpAnyH_take (i := 14) (v := .pointer (some ⟨q, 0, none⟩)) rfl (by kernel_rfl) (by kernel_rfl) (by kernel_rfl) (fun _ _ _ h => h) (Or.inl ⟨by rfl, by intro w' _; go_simp⟩) HB3.out ?_
      simp only [List.getElem_toArray, List.getElem_cons_succ, List.getElem_cons_zero, Act.put, List.setIfInBounds_toArray, List.set_cons_zero, List.set_cons_succ]
      refine wpAnyH_take (i := 15) (v := .pointer (some ⟨q, 0, none⟩)) rfl (by kernel_rfl) (by kernel_rfl) (by kernel_rfl) (fun _ _ _ h => h) (Or.inl ⟨by rfl, by intro w' _; go_simp⟩) HB3.out ?_
      simp only [List.getElem_toArray, List.getElem_cons_succ, List.getElem_cons_zero, Act.put, List.setIfInBounds_toArray, List.set_cons_zero, List.set_cons_succ]
      refine wpAnyH_take (i := 16) (v := .pointer (some ⟨q, 2, none⟩)) rfl (by kernel_rfl) (by kernel_rfl) (by kernel_rfl) (fun _ _ _ h => h) (Or.inl ⟨by rfl, by intro w' _; go_simp⟩) HB3.out ?_
      simp only [List.getElem_toArray, List.getElem_cons_succ, List.getElem_cons_zero, Act.put, List.setIfInBounds_toArray, List.set_cons_zero, List.set_cons_succ]
      refine wpAnyH_take (i := 17) (v := cv) rfl (by kernel_rfl) (by kernel_rfl) (by kernel_rfl) (fun _ _ _ h => h) (Or.inl ⟨by rfl, by intro w' hw; have hw1 := HC2.out w' hw; go_simp⟩) HB3.out ?_
      simp only [List.getElem_toArray, List.getElem_cons_succ, List.getElem_cons_zero, Act.put, List.setIfInBounds_toArray, List.set_cons_zero, List.set_cons_succ]
      have hcv := HCv.out
      obtain ⟨xa, xc, hcv⟩ := hcv
      subst hcv
      refine wpAnyH_take (i := 18) (v := .int .i64 (d.acts.length : Int)) rfl (by kernel_rfl) (by kernel_rfl) (by kernel_rfl) (fun _ _ _ h => h) (Or.inl ⟨by rfl, by intro w' _; go_simp⟩) HB3.out ?_
      simp only [List.getElem_toArray, List.getElem_cons_succ, List.getElem_cons_zero, Act.put, List.setIfInBounds_toArray, List.set_cons_zero, List.set_cons_succ]
      refine wpAnyH_ready (rs := [13]) (by kernel_rfl) (by simp) (AllReadyH.cons (by simp only [List.getElem?_toArray, List.getElem?_cons_succ, List.getElem?_cons_zero]; rfl) (fun K hK => ?_) AllReadyH.nil)
      refine step_want (by rfl) ?_
      go_simp
      refine Calls.mono ((HD.out _ HB3.out).pending) ?_
      rintro e WL ⟨rfl, hWL⟩
      subst hWL
      refine hK.out _ _ HB3.out (fun _ => ?_)
      clear hK K
      try simp only [List.getElem_toArray, List.getElem_cons_succ, List.getElem_cons_zero, Act.put, List.setIfInBounds_toArray, List.set_cons_zero, List.set_cons_succ]
      refine wpAnyH_take (i := 19) (v := .bool true) rfl (by kernel_rfl) (by kernel_rfl) (by kernel_rfl) (fun _ _ _ h => h) (Or.inl ⟨by rfl, by intro w' _; go_simp⟩) HB3.out ?_
      simp only [List.getElem_toArray, List.getElem_cons_succ, List.getElem_cons_zero, Act.put, List.setIfInBounds_toArray, List.set_cons_zero, List.set_cons_succ]
      refine wpAnyH_take (i := 20) (v := .bool true) rfl (by kernel_rfl) (by kernel_rfl) (by kernel_rfl) (fun _ _ _ h => h) (Or.inl ⟨by rfl, by intro w' _; go_simp⟩) HB3.out ?_
      simp only [List.getElem_toArray, List.getElem_cons_succ, List.getElem_cons_zero, Act.put, List.setIfInBounds_toArray, List.set_cons_zero, List.set_cons_succ]
      refine wpAnyH_take (i := 21) (v := .bool true) rfl (by kernel_rfl) (by kernel_rfl) (by kernel_rfl) (fun _ _ _ h => h) (Or.inl ⟨by rfl, by intro w' _; go_simp⟩) HB3.out ?_
      simp only [List.getElem_toArray, List.getElem_cons_succ, List.getElem_cons_zero, Act.put, List.setIfInBounds_toArray, List.set_cons_zero, List.set_cons_succ]
      refine wpAnyH_take (i := 22) (v := .pointer (some ⟨p, 0, none⟩)) rfl (by kernel_rfl) (by kernel_rfl) (by kernel_rfl) (fun _ _ _ h => h) (Or.inl ⟨by rfl, by intro w' _; go_simp⟩) HB3.out ?_
      simp only [List.getElem_toArray, List.getElem_cons_succ, List.getElem_cons_zero, Act.put, List.setIfInBounds_toArray, List.set_cons_zero, List.set_cons_succ]
      refine wpAnyH_take (i := 24) (v := .pointer (some ⟨q, 0, none⟩)) rfl (by kernel_rfl) (by kernel_rfl) (by kernel_rfl) (fun _ _ _ h => h) (Or.inl ⟨by rfl, by intro w' _; go_simp⟩) HB3.out ?_
      simp only [List.getElem_toArray, List.getElem_cons_succ, List.getElem_cons_zero, Act.put, List.setIfInBounds_toArray, List.set_cons_zero, List.set_cons_succ]
      refine wpAnyH_take (i := 25) (v := .pointer (some ⟨q, 0, none⟩)) rfl (by kernel_rfl) (by kernel_rfl) (by kernel_rfl) (fun _ _ _ h => h) (Or.inl ⟨by rfl, by intro w' _; go_simp⟩) HB3.out ?_
      simp only [List.getElem_toArray, List.getElem_cons_succ, List.getElem_cons_zero, Act.put, List.setIfInBounds_toArray, List.set_cons_zero, List.set_cons_succ]
      refine wpAnyH_take (i := 26) (v := .pointer (some ⟨q, 3, none⟩)) rfl (by kernel_rfl) (by kernel_rfl) (by kernel_rfl) (fun _ _ _ h => h) (Or.inl ⟨by rfl, by intro w' _; go_simp⟩) HB3.out ?_
      simp only [List.getElem_toArray, List.getElem_cons_succ, List.getElem_cons_zero, Act.put, List.setIfInBounds_toArray, List.set_cons_zero, List.set_cons_succ]
      refine wpAnyH_take (i := 27) (v := .bool (!d.up)) rfl (by kernel_rfl) (by kernel_rfl) (by kernel_rfl) (fun _ _ _ h => h) (Or.inl ⟨by rfl, by intro w' hw; have hw1 := HC3.out w' hw; go_simp⟩) HB3.out ?_
      simp only [List.getElem_toArray, List.getElem_cons_succ, List.getElem_cons_zero, Act.put, List.setIfInBounds_toArray, List.set_cons_zero, List.set_cons_succ]
      refine wpAnyH_take (i := 28) (v := .bool d.up) rfl (by kernel_rfl) (by kernel_rfl) (by kernel_rfl) (fun _ _ _ h => h) (Or.inl ⟨by rfl, by intro w' _; cases d.up <;> go_simp⟩) HB3.out ?_
      simp only [List.getElem_toArray, List.getElem_cons_succ, List.getElem_cons_zero, Act.put, List.setIfInBounds_toArray, List.set_cons_zero, List.set_cons_succ]
      refine wpAnyH_ready (rs := [23]) (by kernel_rfl) (by simp) (AllReadyH.cons (by simp only [List.getElem?_toArray, List.getElem?_cons_succ, List.getElem?_cons_zero]; rfl) (fun K hK => ?_) AllReadyH.nil)
      refine step_want (by rfl) ?_
      go_simp
      refine Calls.mono ((HD.out _ HB3.out).up) ?_
      rintro e WL ⟨rfl, hWL⟩
      subst hWL
      refine hK.out _ _ HB3.out (fun _ => ?_)
      clear hK K
      try simp only [List.getElem_toArray, List.getElem_cons_succ, List.getElem_cons_zero, Act.put, List.setIfInBounds_toArray, List.set_cons_zero, List.set_cons_succ]
      refine wpAnyH_take (i := 29) (v := .bool true) rfl (by kernel_rfl) (by kernel_rfl) (by kernel_rfl) (fun _ _ _ h => h) (Or.inl ⟨by rfl, by intro w' _; cases d.up <;> go_simp⟩) HB3.out ?_
      simp only [List.getElem_toArray, List.getElem_cons_succ, List.getElem_cons_zero, Act.put, List.setIfInBounds_toArray, List.set_cons_zero, List.set_cons_succ]
      refine wpAnyH_take (i := 30) (v := .bool true) rfl (by kernel_rfl) (by kernel_rfl) (by kernel_rfl) (fun _ _ _ h => h) (Or.inl ⟨by rfl, by intro w' _; go_simp⟩) HB3.out ?_
      simp only [List.getElem_toArray, List.getElem_cons_succ, List.getElem_cons_zero, Act.put, List.setIfInBounds_toArray, List.set_cons_zero, List.set_cons_succ]
      refine wpAnyH_take (i := 31) (v := .bool true) rfl (by kernel_rfl) (by kernel_rfl) (by kernel_rfl) (fun _ _ _ h => h) (Or.inl ⟨by rfl, by intro w' _; go_simp⟩) HB3.out ?_
      simp only [List.getElem_toArray, List.getElem_cons_succ, List.getElem_cons_zero, Act.put, List.setIfInBounds_toArray, List.set_cons_zero, List.set_cons_succ]
      refine wpAnyH_take (i := 32) (v := .pointer (some ⟨p, 0, none⟩)) rfl (by kernel_rfl) (by kernel_rfl) (by kernel_rfl) (fun _ _ _ h => h) (Or.inl ⟨by rfl, by intro w' _; go_simp⟩) HB3.out ?_
      simp only [List.getElem_toArray, List.getElem_cons_succ, List.getElem_cons_zero, Act.put, List.setIfInBounds_toArray, List.set_cons_zero, List.set_cons_succ]
      refine wpAnyH_take (i := 34) (v := .pointer (some ⟨q, 0, none⟩)) rfl (by kernel_rfl) (by kernel_rfl) (by kernel_rfl) (fun _ _ _ h => h) (Or.inl ⟨by rfl, by intro w' _; go_simp⟩) HB3.out ?_
      simp only [List.getElem_toArray, List.getElem_cons_succ, List.getElem_cons_zero, Act.put, List.setIfInBounds_toArray, List.set_cons_zero, List.set_cons_succ]
      refine wpAnyH_take (i := 35) (v := .pointer (some ⟨q, 0, none⟩)) rfl (by kernel_rfl) (by kernel_rfl) (by kernel_rfl) (fun _ _ _ h => h) (Or.inl ⟨by rfl, by intro w' _; go_simp⟩) HB3.out ?_
      simp only [List.getElem_toArray, List.getElem_cons_succ, List.getElem_cons_zero, Act.put, List.setIfInBounds_toArray, List.set_cons_zero, List.set_cons_succ]
      refine wpAnyH_take (i := 36) (v := .pointer (some ⟨q, 4, none⟩)) rfl (by kernel_rfl) (by kernel_rfl) (by kernel_rfl) (fun _ _ _ h => h) (Or.inl ⟨by rfl, by intro w' _; go_simp⟩) HB3.out ?_
      simp only [List.getElem_toArray, List.getElem_cons_succ, List.getElem_cons_zero, Act.put, List.setIfInBounds_toArray, List.set_cons_zero, List.set_cons_succ]
      refine wpAnyH_take (i := 37) (v := .int .i64 (d.starts : Int)) rfl (by kernel_rfl) (by kernel_rfl) (by kernel_rfl) (fun _ _ _ h => h) (Or.inl ⟨by rfl, by intro w' hw; have hw1 := HC4.out w' hw; go_simp⟩) HB3.out ?_
      simp only [List.getElem_toArray, List.getElem_cons_succ, List.getElem_cons_zero, Act.put, List.setIfInBounds_toArray, List.set_cons_zero, List.set_cons_succ]
      refine wpAnyH_ready (rs := [33]) (by kernel_rfl) (by simp) (AllReadyH.cons (by simp only [List.getElem?_toArray, List.getElem?_cons_succ, List.getElem?_cons_zero]; rfl) (fun K hK => ?_) AllReadyH.nil)
      refine step_want (by rfl) ?_
      go_simp
      refine Calls.mono ((HD.out _ HB3.out).starts) ?_
      rintro e WL ⟨rfl, hWL⟩
      subst hWL
      refine hK.out _ _ HB3.out (fun _ => ?_)
      clear hK K
      try simp only [List.getElem_toArray, List.getElem_cons_succ, List.getElem_cons_zero, Act.put, List.setIfInBounds_toArray, List.set_cons_zero, List.set_cons_succ]
      refine wpAnyH_take (i := 38) (v := .bool true) rfl (by kernel_rfl) (by kernel_rfl) (by kernel_rfl) (fun _ _ _ h => h) (Or.inl ⟨by rfl, by intro w' _; go_simp⟩) HB3.out ?_
      simp only [List.getElem_toArray, List.getElem_cons_succ, List.getElem_cons_zero, Act.put, List.setIfInBounds_toArray, List.set_cons_zero, List.set_cons_succ]
      refine wpAnyH_take (i := 39) (v := .bool true) rfl (by kernel_rfl) (by kernel_rfl) (by kernel_rfl) (fun _ _ _ h => h) (Or.inl ⟨by rfl, by intro w' _; go_simp⟩) HB3.out ?_
      simp only [List.getElem_toArray, List.getElem_cons_succ, List.getElem_cons_zero, Act.put, List.setIfInBounds_toArray, List.set_cons_zero, List.set_cons_succ]
      refine wpAnyH_take (i := 40) (v := .bool true) rfl (by kernel_rfl) (by kernel_rfl) (by kernel_rfl) (fun _ _ _ h => h) (Or.inl ⟨by rfl, by intro w' _; go_simp⟩) HB3.out ?_
      simp only [List.getElem_toArray, List.getElem_cons_succ, List.getElem_cons_zero, Act.put, List.setIfInBounds_toArray, List.set_cons_zero, List.set_cons_succ]
      refine wpAnyH_done (by kernel_rfl) ?_ _
      go_wp2
      go_ret
      exact ⟨rfl, HB3.out⟩
end Go.Proofs.Ythlaackalmgfnaa

namespace Go.Proofs.Ythlaackalmgfnaa
open Go.RowKit

def Duo (w : World) (p q : Nat) (d : Dv) (r : Rv) (wr : World) : Prop := ∃ P O, Both w p q d r P O wr
theorem Both.at_ {w wr wx : World} {p q : Nat} {d : Dv} {r : Rv} {P O : Nat → Prop} (h : Both w p q d r P O wr) (hb : Below wr.heap.size wr wx) : Both w p q d r P O wx :=
  ⟨h.below.trans (hb.mono h.below.size), h.dev.below hb, h.ref.below hb, h.sim, h.sane, fun k hk => ⟨(h.lo k hk).1, by have := (h.lo k hk).2; have := hb.size; omega⟩, h.apart⟩
theorem Duo.at_ {w wr wx : World} {p q : Nat} {d : Dv} {r : Rv} (h : Duo w p q d r wr) (hb : Below wr.heap.size wr wx) : Duo w p q d r wx := by
  obtain ⟨P, O, h⟩ := h
  exact ⟨P, O, h.at_ hb⟩
theorem byR_keep (r : Rv) (x : DoX) : (byR r x).2.keep = r.keep ∨ (byR r x).2.keep = x.k := by
  have hdone : ∀ r : Rv, (rdoneD r).2.keep = r.keep := fun r => by
    unfold rdoneD
    split
    · rfl
    · split <;> rfl
  have hw : ∀ s, (rwriteD r x.i s).2.keep = r.keep := fun s => by
    unfold rwriteD
    split
    · rfl
    · split
      · rfl
      · split
        · rfl
        · split
          · rfl
          · exact hdone _
  have he : (reraseD r x.i).2.keep = r.keep := by
    unfold reraseD
    split
    · rfl
    · split
      · rfl
      · split
        · rfl
        · split
          · rfl
          · exact hdone _
  unfold byR
  split
  · left; unfold rtamperD; split <;> rfl
  · split
    · exact .inl (hw _)
    · split
      · exact .inl he
      · split
        · left
          unfold rflushD
          split
          · rfl
          · split
            · exact hdone _
            · exact hdone _
        · split
          · left; unfold rcrashE; split <;> rfl
          · split
            · left; unfold rstartD; split <;> rfl
            · split
              · unfold rfailD
                split
                · exact .inl rfl
                · split
                  · exact .inl rfl
                  · exact .inr rfl
              · exact .inl (hw _)
theorem withT_copy (d : Dv) (x : DoX) (a : Option Addr) (c : Nat) : withT d { x with ka := a, kc := c } = withT d x := rfl
/-- What is asked of the one, then of the other. -/
theorem both_with {w wr wx : World} {p q : Nat} {d : Dv} {r : Rv} {P O : Nat → Prop} (h : Both w p q d r P O wr) (hb : Below wr.heap.size wr wx) (x : DoX) (hx : x.ok wx) (hxk : x.k ≠ [] → ∀ i, x.kv.ownBlock = some i → wr.heap.size ≤ i) (hl : x.k.length ≤ 100) (ha : d.acts.length ≤ 60) (hs : d.starts ≤ 60) :
    Calls Try.prog 12 #[.pointer (some ⟨p, 0, none⟩), .agg x.v] wx (Tells fun e w' => e = (withT d x).1 ∧ Dev w' p (withT d x).2 (grow P wx w') ∧ Turn P wx w') :=
  dev_withT (h.at_ hb).dev x hx (fun hk i hi hP => by have := hxk hk i hi; have := (h.lo i (.inl hP)).2; omega) (fun k hk => ((h.at_ hb).lo k (.inl hk)).2) (by omega) (by omega) (by omega)
theorem both_by {w wr wx w1 : World} {p q : Nat} {d : Dv} {r : Rv} {P O : Nat → Prop} (h : Both w p q d r P O wr) (hb : Below wr.heap.size wr wx) (x x' : DoX) (hx : x.ok w) (hxx : withT d x' = withT d x) (hl : x.k.length ≤ 100) (ha : d.acts.length ≤ 60) (hs : d.starts ≤ 60) (hkl : r.keep.length ≤ 100)
    (hd : Dev w1 p (withT d x').2 (grow P wx w1)) (ht : Turn P wx w1) :
    Calls Try.prog 13 #[.pointer (some ⟨q, 0, none⟩), .agg x.v] w1 (Tells fun e w2 => e = (withT d x).1 ∧ (∃ P' O', Both w p q (withT d x).2 (byR r x).2 P' O' w2 ∧ ∀ k, wr.heap.size ≤ k → k < wx.heap.size → ¬ P' k ∧ ¬ O' k) ∧ (∀ k, wr.heap.size ≤ k → k < wx.heap.size → w2.heap[k]? = wx.heap[k]?) ∧ wx.heap.size ≤ w2.heap.size ∧ Below w.heap.size w w2) := by
  have hX := h.at_ hb
  have s0 := h.below.size
  have s1 := hb.size
  have s2 := ht.size
  have hPO : ∀ k, P k ∨ O k → k < wr.heap.size := fun k hk => (h.lo k hk).2
  have hr1 : Ref w1 q r O := hX.ref.turn ht fun k hk hP => hX.apart k hP hk
  have hb1 : Below w.heap.size w w1 := hX.below.trans (ht.below (fun k hk => (h.lo k (.inl hk)).1) (by omega))
  have f := h.sim.few
  obtain ⟨b1, b2, b3⟩ := h.sim.by h.sane x
  refine Calls.mono (ref_by hr1 x (hx.below hb1) (fun hk i hi hO => ?_) (fun k hk => by have := hPO k (.inr hk); omega) (by omega) (by rw [f.1]; omega) (by rw [f.2.1]; omega) (by omega) h.sim.left) fun e w2 hh => ?_
  · obtain ⟨a, c, ea, hh⟩ := hx.k
    obtain ⟨y, hy⟩ : ∃ y, x.k[0]? = some y := ⟨_, List.getElem?_eq_getElem (List.length_pos_iff.2 hk)⟩
    obtain ⟨b', o, rfl, hc⟩ := hh 0 y hy
    rw [ea] at hi
    have : b' = i := by simpa [Value.ownBlock] using hi
    subst this
    have h1 := World.block_lt_of_cell? w _ hc
    have h2 := (h.lo b' (.inr hO)).1
    dsimp only at h1
    omega
  · obtain ⟨e', rfl, rfl, hr2, ht2⟩ := hh
    have s3 := ht2.size
    have hd2 : Dev w2 p (withT d x').2 (grow P wx w1) := hd.turn ht2 fun k hk hO => by
      have := hPO k (.inr hO)
      rcases hk with hk | hk
      · exact h.apart k hk hO
      · omega
    rw [hxx] at hd2
    refine ⟨_, rfl, b1, ⟨grow P wx w1, grow O w1 w2, ⟨hb1.trans (ht2.below (fun k hk => (h.lo k (.inr hk)).1) (by omega)), hd2, hr2, b2, b3, fun k hk => ?_, fun k hk hk2 => ?_⟩, fun k h1 h2 => ⟨fun hk => ?_, fun hk => ?_⟩⟩, fun k h1 h2 => ?_, by omega, hb1.trans (ht2.below (fun k hk => (h.lo k (.inr hk)).1) (by omega))⟩
    · rcases hk with (hk | hk) | (hk | hk)
      · exact ⟨(h.lo k (.inl hk)).1, by have := hPO k (.inl hk); omega⟩
      · exact ⟨by omega, by omega⟩
      · exact ⟨(h.lo k (.inr hk)).1, by have := hPO k (.inr hk); omega⟩
      · exact ⟨by omega, by omega⟩
    · rcases hk with hk | hk
      · have := hPO k (.inl hk)
        rcases hk2 with hk2 | hk2
        · exact h.apart k hk hk2
        · omega
      · rcases hk2 with hk2 | hk2
        · have := hPO k (.inr hk2); omega
        · omega
    · rcases hk with hk | hk
      · have := hPO k (.inl hk); omega
      · omega
    · rcases hk with hk | hk
      · have := hPO k (.inr hk); omega
      · omega
    · rw [ht2.block k (by omega) (fun hO => by have := hPO k (.inr hO); omega), ht.block k h2 (fun hO => by have := hPO k (.inl hO); omega)]
/-- Another block turns. -/
theorem Both.off {w wr wx : World} {p q g : Nat} {d : Dv} {r : Rv} {P O : Nat → Prop} (h : Both w p q d r P O wr) (hg : ¬ P g ∧ ¬ O g) (hl : w.heap.size ≤ g) (ht : Turn (fun k => k = g) wr wx) : Both w p q d r P O wx := by
  have s := ht.size
  refine ⟨h.below.trans (ht.below (fun k hk => by rw [hk]; exact hl) h.below.size), h.dev.turn ht (fun k hk e => hg.1 (e ▸ hk)), h.ref.turn ht (fun k hk e => hg.2 (e ▸ hk)), h.sim, h.sane, fun k hk => ⟨(h.lo k hk).1, by have := (h.lo k hk).2; omega⟩, h.apart⟩
/-- New ones. -/
theorem both_new {w w1 w2 : World} {p q n : Nat} (h1 : Dev w1 p (newD n) (fun k => w.heap.size ≤ k ∧ k < w1.heap.size)) (b1 : Below w.heap.size w w1) (h2 : Ref w2 q (rnewD n) (fun k => w1.heap.size ≤ k ∧ k < w2.heap.size)) (b2 : Below w1.heap.size w1 w2) : Duo w p q (newD n) (rnewD n) w2 := by
  have s1 := b1.size
  have s2 := b2.size
  refine ⟨fun k => w.heap.size ≤ k ∧ k < w1.heap.size, fun k => w1.heap.size ≤ k ∧ k < w2.heap.size, b1.trans (b2.mono s1), h1.below b2, h2, ?_, ?_, fun k hk => ?_, fun k hk hk2 => by omega⟩
  · refine ⟨?_, ?_, rfl, rfl, rfl, rfl, fun _ _ hh => by cases hh⟩
    · show List.replicate n 0 = (List.replicate n blank).map _
      rw [List.map_replicate]; rfl
    · show List.replicate n [] = (List.replicate n blank).map txB
      rw [List.map_replicate]; rfl
  · exact ⟨rfl, rfl, fun x hx => by cases hx⟩
  · rcases hk with hk | hk <;> exact ⟨by omega, by omega⟩
/-- Their clones. -/
theorem both_clone {w wr w1 w2 : World} {p q p' q' : Nat} {d : Dv} {r : Rv} (h : Duo w p q d r wr) (h1 : Dev w1 p' (runD d.sure) (fun k => wr.heap.size ≤ k ∧ k < w1.heap.size)) (b1 : Below wr.heap.size wr w1) (h2 : Ref w2 q' (rcloneD r) (fun k => w1.heap.size ≤ k ∧ k < w2.heap.size)) (b2 : Below w1.heap.size w1 w2) : Duo wr p' q' (runD d.sure) (rcloneD r) w2 := by
  obtain ⟨P, O, h⟩ := h
  have s1 := b1.size
  have s2 := b2.size
  refine ⟨fun k => wr.heap.size ≤ k ∧ k < w1.heap.size, fun k => w1.heap.size ≤ k ∧ k < w2.heap.size, b1.trans (b2.mono s1), h1.below b2, h2, ⟨h.sim.st, h.sim.da, rfl, rfl, rfl, rfl, fun _ _ hh => by cases hh⟩, ⟨rfl, rfl, fun x hx => by cases hx⟩, fun k hk => ?_, fun k hk hk2 => by omega⟩
  rcases hk with hk | hk <;> exact ⟨by omega, by omega⟩
theorem duo_same {w0 w : World} {p q : Nat} {d : Dv} {r : Rv} (h : Duo w0 p q d r w) (ha : d.acts.length ≤ 60) :
    Calls Try.prog 15 #[.pointer (some ⟨p, 0, none⟩), .pointer (some ⟨q, 0, none⟩)] w fun e w' => e = .returned (.bool true) ∧ Below w.heap.size w w' := by
  obtain ⟨P, O, h⟩ := h
  exact same_any h (by omega)
/-- A copy with one more at its end, of which it is not a part. -/
theorem copy_row {w : World} {B K : Nat} {v : Value} {k : List Int} (hK : k.length = K) (h : w.ownsRow B 3 1 v (K + 1) (k.map (Value.int .i64) ++ [.int .i64 99])) : ∃ g c cur, v = .slice (some ⟨g, 0, none⟩) (K + 1) c ∧ K + 1 ≤ c ∧ B ≤ g ∧ w.heap[g]? = some (.cells cur 3 (0, 0)) ∧ K ≤ cur.size ∧ ∀ (j : Nat) (n : Int), k[j]? = some n → cur[j]? = some (Value.int .i64 n) := by
  rcases h.2 with ⟨_, q2⟩ | ⟨g, cap, cur, q1, q2, q3, q4, q5, q6, q7⟩
  · omega
  · refine ⟨g, cap, cur, q1, q4, q2, q3, by omega, fun j n hj => ?_⟩
    have hl := (List.getElem?_eq_some_iff.1 hj).1
    have e : (k.map (Value.int .i64) ++ [.int .i64 99])[j]? = some (.int .i64 n) := by
      rw [List.getElem?_append_left (by simpa using hl), List.getElem?_map, hj]; rfl
    rw [← q7, List.getElem?_take] at e
    simp at e
    exact e.2
theorem copy_ints {w : World} {g c : Nat} {cur : Array Value} {k : List Int} (h : w.heap[g]? = some (.cells cur 3 (0, 0))) (hc : ∀ (j : Nat) (n : Int), k[j]? = some n → cur[j]? = some (Value.int .i64 n)) : IntsAt w (.slice (some ⟨g, 0, none⟩) k.length c) k :=
  ⟨_, _, rfl, fun i n hi => ⟨g, 0, rfl, by rw [cell_of_row _ _ _ _ _ _ h, Nat.zero_add]; exact hc i n hi⟩⟩
theorem mk_room (K : Nat) (hK : K ≤ 1000) (w : World) : (Instr.makeSlice 31 (.int .i64 0) (.int .i64 ((K : Int) + 1))).run Try.prog w = .ok (.slice (some ⟨w.heap.size, 0, none⟩) 0 (K + 1)) (w.alloc (.cells (iv (List.replicate (K + 1) 0)) 3)) := by
  obtain ⟨ia, i1, i2, i3, i4⟩ := info_int
  have h := run_makeSlice (P := Try.prog) w 31 3 ia (.int .i64 0) Try.underlying31 i1 i2 .i64 .i64 0 ((K + 1 : Nat) : Int) (by omega) (by omega) (by rw [i3, Int.toNat_natCast]; omega) (by rw [i4]; omega) (by omega)
  rw [i3, Int.toNat_natCast, Nat.mul_one] at h
  have e : madeCells (Value.int .i64 0).cells (K + 1) = iv (List.replicate (K + 1) 0) := zeros_made (K + 1)
  rw [e] at h
  exact h
/-- append(made, k...): a copy. -/
theorem wp_append_copy {op : Oper} {a : Act} {W : World} {K : Act → World → Prop} {Q : Exit → Act → World → Prop} (s y : Operand) (ho : op.op = .call { callee := .builtin .append, args := #[s, y], argTypes := #[31, 31] }) (B EM C : Nat) (k : List Int) (ka : Option Addr) (kc : Nat)
    (hs : a.eval s = .slice (some ⟨EM, 0, none⟩) 0 C) (hy : a.eval y = .slice ka k.length kc) (hk : IntsAt W (.slice ka k.length kc) k) (hown : W.ownsRow B 3 1 (.slice (some ⟨EM, 0, none⟩) 0 C) 0 []) (hl : k.length ≤ 1000) (hB : B ≤ W.heap.size)
    (h : ∀ v' w', w'.ownsRow B 3 1 v' k.length (k.map (Value.int .i64)) → W.grownBy w' (some EM) → K (a.put op.dst v') w') : op.wp Try.prog a W K Q := by
  obtain ⟨ia, i1, i2, i3, i4⟩ := info_int
  obtain ⟨xa, xc, e, hh⟩ := hk
  have e1 : ka = xa := by simpa using (congrArg (fun v => match v with | Value.slice a _ _ => a | _ => none) e)
  cases ka with
  | none =>
    have hk0 : k = [] := by
      cases k with
      | nil => rfl
      | cons z k => obtain ⟨_, _, h, _⟩ := hh 0 z rfl; rw [← e1] at h; cases h
    subst hk0
    have hap := append_nothing (P := Try.prog) (w := W) 31 op.type 3 ia Try.underlying31 i1 ⟨EM, 0, none⟩ 0 C kc (Nat.zero_le _)
    unfold Oper.wp execOp
    simp only [ho, resolve, invoke, builtin, Sem.run_bind, Sem.run_pure, Result.andThen_ok, List.map_toArray, List.map_cons, List.map_nil, hs, hy, List.length_nil, hap]
    exact h _ _ hown ⟨rfl, rfl, rfl, Nat.le_refl _, fun _ _ _ => rfl⟩
  | some ad =>
    refine wp_append_own W s y 31 ho B 3 ia (.int .i64 0) 1 8 Try.underlying31 i1 i2 i3 i4 rfl (by omega) (.slice (some ⟨EM, 0, none⟩) 0 C) 0 [] hs hown ad k.length kc (k.map (Value.int .i64)) hy (by simp) (fun j u hj => ?_) (fun u hu => ?_) (by simp only [maxLen]; omega) (by omega) hB (fun v' w' r1 r2 _ => h v' w' (by simpa using r1) r2)
    · rw [List.getElem?_map] at hj
      cases hkj : k[j]? with
      | none => rw [hkj] at hj; cases hj
      | some n =>
        rw [hkj] at hj
        obtain ⟨b, o, e2, hc⟩ := hh j n hkj
        rw [← e1] at e2
        obtain rfl : ad = ⟨b, o, none⟩ := by simpa using e2
        obtain rfl : Value.int .i64 n = u := by simpa using hj
        rw [Addr.add_mid]
        exact hc
    · simp only [List.mem_map] at hu
      obtain ⟨x, _, rfl⟩ := hu
      rfl
end Go.Proofs.Ythlaackalmgfnaa
