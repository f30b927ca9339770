/- The law RunsBack (layer 7). -/
import Derived.Test.YtbnfhhjgalphgaaZp
import Derived.Test.YtbnfhhjgalphgaaZw
namespace Go.Proofs.Ytbnfhhjgalphgaa
open Go.RowKit

theorem st_back {st : List Int} {m : Nat} {z : Int} (h : st[m]? = some z) : blankB st m = decide (z = 0) := by unfold blankB; rw [h]; simp
theorem free_has {st : List Int} (hl : st.length ≤ 80000) {m : Nat} {z : Int} (h : st[m]? = some z) : hasB (freeL st) (m : Int) = decide (z = 0) := by
  have hm := (List.getElem?_eq_some_iff.1 h).1
  have hh := (freeL_ok st (by omega)).has (m : Int)
  rw [Int.toNat_natCast, st_back h] at hh
  rw [Bool.eq_iff_iff, hh]
  exact ⟨fun e => e.2.2, fun e => ⟨by omega, by omega, e⟩⟩
/-- The greatest count. -/
def longB : List Rn → Int
  | [] => 0
  | r :: l => max r.c (longB l)
theorem longB_snoc : ∀ (l : List Rn) (r : Rn), 0 ≤ r.c → longB (l ++ [r]) = max (longB l) r.c
  | [], r, h => by simp [longB]; omega
  | x :: l, r, h => by simp only [longB, List.cons_append, longB_snoc l r h]; omega
theorem longB_le {l : List Rn} {n : Int} (h0 : 0 < n) : (∀ r ∈ l, r.c < n) ↔ longB l < n := by
  induction l with
  | nil => simp [longB]; omega
  | cons x l ih =>
    rw [List.forall_mem_cons, ih, longB]
    omega
theorem longB_bound : ∀ {l : List Rn}, chkB l = true → 0 ≤ longB l ∧ longB l ≤ 1099511627776
  | [], _ => by simp [longB]
  | x :: l, h => by
    have h1 := longB_bound (chk_cons.1 h).2.1
    have h2 := oneB_iff.1 (chk_cons.1 h).1
    rw [longB]
    omega
/-- Where the first one that has so many starts, or -1. -/
def atB (n : Int) : List Rn → Int
  | [] => -1
  | r :: l => if n ≤ r.c then r.s else atB n l
theorem atB_snoc {n : Int} : ∀ (l : List Rn) (r : Rn), chkB l = true → atB n (l ++ [r]) = if atB n l < 0 then (if n ≤ r.c then r.s else -1) else atB n l
  | [], r, _ => by simp [atB]
  | x :: l, r, h => by
    have h2 := oneB_iff.1 (chk_cons.1 h).1
    rw [List.cons_append, atB, atB]
    by_cases hx : n ≤ x.c
    · rw [if_pos hx, if_pos hx, if_neg (by omega)]
    · rw [if_neg hx, if_neg hx, atB_snoc l r (chk_cons.1 h).2.1]
theorem atB_neg {n : Int} : ∀ {l : List Rn}, chkB l = true → (atB n l < 0 ↔ ∀ r ∈ l, r.c < n) ∧ -1 ≤ atB n l ∧ (atB n l < 0 → atB n l = -1)
  | [], _ => by simp [atB]
  | x :: l, h => by
    have h2 := oneB_iff.1 (chk_cons.1 h).1
    have ih := atB_neg (n := n) (chk_cons.1 h).2.1
    rw [atB, List.forall_mem_cons]
    by_cases hx : n ≤ x.c
    · rw [if_pos hx]
      refine ⟨⟨fun e => by omega, fun e => by omega⟩, by omega, fun e => by omega⟩
    · rw [if_neg hx]
      exact ⟨⟨fun e => ⟨by omega, ih.1.1 e⟩, fun e => ih.1.2 e.2⟩, ih.2⟩
theorem atB_first {n : Int} {r : Rn} {q : List Rn} (h2 : n ≤ r.c) : ∀ {p : List Rn}, (∀ a ∈ p, a.c < n) → atB n (p ++ r :: q) = r.s
  | [], _ => by rw [List.nil_append, atB, if_pos h2]
  | y :: p, h1 => by
    rw [List.cons_append, atB, if_neg (by have := h1 y (by simp); omega)]
    exact atB_first h2 (fun a ha => h1 a (by simp [ha]))
theorem atB_take {n : Int} {l : List Rn} {x : Rn} {m : List Rn} (h : takeT l n = some (x, m)) : x.s = atB n l := by
  obtain ⟨_, _, hk⟩ := takeT_some h
  obtain ⟨p, r, q, rfl, h1, h2, h3⟩ := hk.first
  rw [h3, atB_first h2 h1]
set_option maxRecDepth 100000 in
set_option linter.unusedSimpArgs false in
set_option maxHeartbeats 4000000 in
theorem back_walk {W : World} {v : Value} {l : List Int} {n : Int} (h : U8At W v l) (hn : 0 ≤ n ∧ n ≤ 255) : Calls Try.prog 5 #[v, .int .u8 n] W fun e w' => e = .returned (.bool true) ∧ Below W.heap.size W w' := by
  obtain ⟨_, a, q, rfl, _⟩ := id h
  by_cases h2 : 300 < l.length
  · have h3 : (l.length : Int) > 300 := by omega
    clear h
    go_enter Try.func5, Try.ntmps5
    go_wp2
    go_ret
    exact ⟨rfl, Below.refl _ _⟩
  have h3 : ¬ (l.length : Int) > 300 := by omega
  have hst : (stL l).length = l.length := stL_length l
  have HU : Hid (U8At W (.slice a l.length q) l) := h
  clear h
  go_enter Try.func5, Try.ntmps5
  go_wp2_with fail
  refine (states_rl HU.out (by omega)).mono ?_
  rintro e w1 ⟨sa, sc, rfl, hsc, hN⟩
  have HW : Hid (BW W w1) := ⟨hN.below⟩
  have HN : Hid (Nw W (.slice sa l.length sc) (stL l) w1) := ⟨hN⟩
  have b := Below.refl w1.heap.size w1
  clear hN HU hsc
  clear b
  generalize stL l = st at *
  have HL : Hid (st.length = l.length) := hst
  have h80 : st.length ≤ 80000 := by omega
  have hfl := free_len st
  have hfl4 : (freeL st).length ≤ 400 := by omega
  have HHas : Hid (∀ (m : Nat) (z : Int), st[m]? = some z → hasB (freeL st) (m : Int) = decide (z = 0)) := fun m z hz => free_has h80 hz
  clear hst hfl
  go_wp2_with fail
  refine (HN.out.free h80).mono ?_
  rintro e w2 ⟨fa, fc, rfl, hF, b⟩
  have HF : Hid _ := hF.rl
  clear hF
  have HW : Hid _ := HW.out.below b
  have HN : Hid _ := HN.out.below b
  clear b
  generalize freeL st = F at *
  go_wp2_with fail
  refine (check_rl HF.out).mono ?_
  rintro e w3 ⟨rfl, b⟩
  have HW : Hid _ := HW.out.below b
  have HN : Hid _ := HN.out.below b
  have HF : Hid _ := HF.out.below b
  clear b
  obtain ⟨N, hN⟩ : ∃ N, l.length = N := ⟨_, rfl⟩
  rw [hN] at HL HN h2 h3
  go_wp2
  clear hN
  go_loopw [7] (fun iv wr => ∃ m : Nat, m ≤ N ∧ iv = .int .i64 m ∧ Below w3.heap.size w3 wr) (fun iv _ => N - (intOf iv).toNat)
  case atStart => exact ⟨0, Nat.zero_le _, rfl, Below.refl _ _⟩
  case round =>
    obtain ⟨m, hm, rfl, b⟩ := hrel
    have HB : Hid (Below w3.heap.size w3 wr) := b
    have HW3 : Hid _ := HW
    have HF3 : Hid _ := HF
    have HN3 : Hid _ := HN
    have HW : Hid _ := HW.out.below b
    have HN : Hid _ := HN.out.below b
    have HF : Hid _ := HF.out.below b
    clear b
    by_cases hlt : m < N
    · obtain ⟨z, hz⟩ : ∃ z, st[m]? = some z := ⟨_, List.getElem?_eq_getElem (by have := HL.out; omega)⟩
      obtain ⟨g, rfl, -, c1, -, -⟩ := HN.out.at_ hz
      have hlt2 : (m : Int) < (N : Int) := by omega
      have HWi : Hid (∀ wx, Below wr.heap.size wr wx → Calls Try.prog 24 #[.slice fa F.length fc, .int .i64 m] wx fun e w' => e = .returned (.bool (decide (z = 0))) ∧ Below wx.heap.size wx w') := fun wx hb => by
        have := within_any (m : Int) (HF.out.below hb).at_ (by have := HF.out.len; omega) (sum_fits HF.out.chk)
        rwa [HHas.out m z hz] at this
      have HK : Hid (∀ w', Below wr.heap.size wr w' → w'.cell? ⟨g, m, none⟩ = some (.int .i64 z)) := fun w' hb => cell_stays c1 hb
      have HB0 : Hid (BW w3 wr) := ⟨HB.out⟩
      clear hz c1
      obtain ⟨y, hy⟩ : ∃ y, decide (z = 0) = y := ⟨_, rfl⟩
      have hy2 : (z == 0) = y := by rw [← hy]; rfl
      rw [hy] at HWi
      clear hy
      go_upto_region 10 with fail
      refine wp_region_held (S := Below wr.heap.size wr) (by kernel_rfl) ?_
      change wpAnyH _ _ _ _ _ _ _ _ (World.drew _)
      have HX : Below wr.heap.size wr wr.drew := (Below.refl _ _).drew
      generalize World.drew _ = wd at *
      refine wpAnyH_take (i := 0) (v := .slice fa F.length fc) rfl (by kernel_rfl) (by kernel_rfl) (by kernel_rfl) (fun _ _ _ h => h) (Or.inl ⟨by rfl, by intro w _; go_simp⟩) HX ?_
      simp only [List.getElem_toArray, List.getElem_cons_succ, List.getElem_cons_zero, Act.put, List.setIfInBounds_toArray, List.set_cons_zero, List.set_cons_succ]
      refine wpAnyH_take (i := 1) (v := .int .i64 m) rfl (by kernel_rfl) (by kernel_rfl) (by kernel_rfl) (fun _ _ _ h => h) (Or.inl ⟨by rfl, by intro w _; go_simp⟩) HX ?_
      simp only [List.getElem_toArray, List.getElem_cons_succ, List.getElem_cons_zero, Act.put, List.setIfInBounds_toArray, List.set_cons_zero, List.set_cons_succ]
      refine wpAnyH_take (i := 3) (v := .slice (some ⟨g, 0, none⟩) N sc) rfl (by kernel_rfl) (by kernel_rfl) (by kernel_rfl) (fun _ _ _ h => h) (Or.inl ⟨by rfl, by intro w _; go_simp⟩) HX ?_
      simp only [List.getElem_toArray, List.getElem_cons_succ, List.getElem_cons_zero, Act.put, List.setIfInBounds_toArray, List.set_cons_zero, List.set_cons_succ]
      refine wpAnyH_take (i := 4) (v := .int .i64 m) rfl (by kernel_rfl) (by kernel_rfl) (by kernel_rfl) (fun _ _ _ h => h) (Or.inl ⟨by rfl, by intro w _; go_simp⟩) HX ?_
      simp only [List.getElem_toArray, List.getElem_cons_succ, List.getElem_cons_zero, Act.put, List.setIfInBounds_toArray, List.set_cons_zero, List.set_cons_succ]
      refine wpAnyH_take (i := 5) (v := .pointer (some ⟨g, m, none⟩)) rfl (by kernel_rfl) (by kernel_rfl) (by kernel_rfl) (fun _ _ _ h => h) (Or.inl ⟨by rfl, by intro w _; go_simp⟩) HX ?_
      simp only [List.getElem_toArray, List.getElem_cons_succ, List.getElem_cons_zero, Act.put, List.setIfInBounds_toArray, List.set_cons_zero, List.set_cons_succ]
      refine wpAnyH_take (i := 6) (v := .int .i64 z) rfl (by kernel_rfl) (by kernel_rfl) (by kernel_rfl) (fun _ _ _ h => h) (Or.inl ⟨by rfl, by intro w4 hw; have hc := HK.out w4 hw; go_simp⟩) HX ?_
      simp only [List.getElem_toArray, List.getElem_cons_succ, List.getElem_cons_zero, Act.put, List.setIfInBounds_toArray, List.set_cons_zero, List.set_cons_succ]
      refine wpAnyH_take (i := 7) (v := .bool y) rfl (by kernel_rfl) (by kernel_rfl) (by kernel_rfl) (fun _ _ _ h => h) (Or.inl ⟨by rfl, by intro w4 _; go_simp⟩) HX ?_
      simp only [List.getElem_toArray, List.getElem_cons_succ, List.getElem_cons_zero, Act.put, List.setIfInBounds_toArray, List.set_cons_zero, List.set_cons_succ]
      refine wpAnyH_ready (rs := [2]) (by kernel_rfl) (by simp) (AllReadyH.cons (by simp only [List.getElem?_toArray, List.getElem?_cons_succ, List.getElem?_cons_zero]; rfl) (fun K hK => ?_) AllReadyH.nil)
      refine step_plain rfl ?_
      go_simp
      refine (HWi.out _ HX).mono ?_
      rintro e wi ⟨rfl, bi⟩
      have HX : Below wr.heap.size wr wi := HX.trans (bi.mono HX.size)
      clear bi
      refine hK.out _ _ HX (fun _ => ?_)
      clear hK K
      try simp only [List.getElem_toArray, List.getElem_cons_succ, List.getElem_cons_zero, Act.put, List.setIfInBounds_toArray, List.set_cons_zero, List.set_cons_succ]
      refine wpAnyH_take (i := 8) (v := .bool false) rfl (by kernel_rfl) (by kernel_rfl) (by kernel_rfl) (fun _ _ _ h => h) (Or.inl ⟨by rfl, by intro w4 _; go_simp⟩) HX ?_
      simp only [List.getElem_toArray, List.getElem_cons_succ, List.getElem_cons_zero, Act.put, List.setIfInBounds_toArray, List.set_cons_zero, List.set_cons_succ]
      refine wpAnyH_done (by kernel_rfl) ?_ _
      have HXh : Hid _ := HB.out.trans (HX.mono HB.out.size)
      clear HX HK HWi hy2
      go_wp2
      go_roundw
      case rel => exact ⟨m + 1, by omega, by go_num, HXh.out⟩
      case measure => simp [intOf]; omega
    obtain rfl : m = N := by omega
    have hlt2 : ¬ ((m : Nat) : Int) < (m : Int) := by omega
    clear HW3 HF3 HN3 HHas HB
    clear HN
    cases hT : takeT F n with
    | none =>
      have hcn : n = 0 ∨ (¬ n = 0 ∧ longB F < n) := by
        by_cases e : n = 0
        · exact .inl e
        · exact .inr ⟨e, (longB_le (by omega)).1 ((takeT_none HF.out.chk (by omega)).1 hT)⟩
      go_wp2_with fail
      refine (take_no n HF.out (by omega) (by omega) hT).mono ?_
      rintro e w4 ⟨rfl, b⟩
      have HW : Hid _ := HW.out.below b
      have HF : Hid _ := HF.out.below b
      clear b
      have b : Below w4.heap.size w4 (w4.alloc (.cells #[.int .i64 0, .int .i64 0] 24)) := (Below.refl _ _).alloc (Nat.le_refl _) _
      clear hT
      have HW : Hid _ := HW.out.below b
      have HF : Hid _ := HF.out.below b
      clear b
      go_wp2
      generalize w4.alloc (.cells #[.int .i64 0, .int .i64 0] 24) = w5 at *

      go_loopw [11, 12, 13] (fun lv av iv wy => wy = w5 ∧ ∃ m : Nat, m ≤ F.length ∧ iv = .int .i64 m ∧ lv = .int .i64 (longB (F.take m)) ∧ av = .int .i64 (atB n (F.take m))) (fun _ _ iv _ => F.length - (intOf iv).toNat)
      case atStart => exact ⟨rfl, 0, Nat.zero_le _, rfl, rfl, rfl⟩
      case round =>
        obtain ⟨rfl, j, hj, rfl, rfl, rfl⟩ := hrel
        by_cases hlt : j < F.length
        · obtain ⟨x, hx⟩ : ∃ x, F[j]? = some x := ⟨_, List.getElem?_eq_getElem hlt⟩
          obtain ⟨b, o, rfl, hk⟩ := HF.out.at_.cells.2 j x hx
          obtain ⟨c1, c2⟩ := hk _ (Below.refl _ _)
          have hlt3 : (j : Int) < (F.length : Int) := by omega
          have hpc := chk_part HF.out.chk j
          have hxo := oneB_iff.1 (chk_one HF.out.chk x (List.mem_of_getElem? hx))
          have hta : F.take (j + 1) = F.take j ++ [x] := by rw [List.take_add_one, hx]; rfl
          have HLo : Hid ((if longB (F.take j) < x.c then x.c else longB (F.take j)) = longB (F.take (j + 1))) := by show _ = _; rw [hta, longB_snoc _ _ (by omega)]; split <;> omega
          have HAt : Hid (atB n (F.take (j + 1)) = if atB n (F.take j) < 0 then (if n ≤ x.c then x.s else -1) else atB n (F.take j)) := by show _ = _; rw [hta, atB_snoc _ _ hpc]
          have hlb := longB_bound hpc
          have hab := (atB_neg (n := n) hpc).2
          clear hx hk hta hpc
          generalize longB (F.take j) = L0 at *
          generalize atB n (F.take j) = A0 at *
          obtain ⟨xs, xc⟩ := x
          simp only at c1 c2 hxo HLo HAt
          have hcase : (A0 < 0 ∧ n ≤ xc) ∨ (A0 < 0 ∧ ¬ n ≤ xc) ∨ ¬ A0 < 0 := by
            by_cases q1 : A0 < 0
            · by_cases q2 : n ≤ xc
              · exact .inl ⟨q1, q2⟩
              · exact .inr (.inl ⟨q1, q2⟩)
            · exact .inr (.inr q1)
          rcases hcase with ⟨q1, q2⟩ | ⟨q1, q2⟩ | q1
          · have HA1 : Hid (atB n (F.take (j + 1)) = xs) := by show _ = _; rw [HAt.out, if_pos q1, if_pos q2]
            clear HAt
            go_wp2
            go_roundw
            case rel => exact ⟨by first | rfl | trivial, j + 1, by omega, by go_num, by rw [← HLo.out], by rw [HA1.out]⟩
            case measure => simp [intOf]; omega
          · have HA1 : Hid (atB n (F.take (j + 1)) = A0) := by show _ = _; rw [HAt.out, if_pos q1, if_neg q2, hab.2 q1]
            clear HAt
            go_wp2
            go_roundw
            case rel => exact ⟨by first | rfl | trivial, j + 1, by omega, by go_num, by rw [← HLo.out], by rw [HA1.out]⟩
            case measure => simp [intOf]; omega
          · have HA1 : Hid (atB n (F.take (j + 1)) = A0) := by show _ = _; rw [HAt.out, if_neg q1]
            clear HAt
            go_wp2
            go_roundw
            case rel => exact ⟨by first | rfl | trivial, j + 1, by omega, by go_num, by rw [← HLo.out], by rw [HA1.out]⟩
            case measure => simp [intOf]; omega
        obtain rfl : j = F.length := by omega
        have hlt3 : ¬ ((F.length : Nat) : Int) < (F.length : Int) := by omega
        have hTL : F.take F.length = F := List.take_of_length_le (Nat.le_refl _)
        have hLb := longB_bound HF.out.chk
        rw [hTL]
        clear hTL
        generalize longB F = LB at *
        rcases hcn with rfl | ⟨hn0, hnl⟩
        · skip
          go_wp2_with fail
          refine (does_any _).mono ?_
          rintro e w6 ⟨rfl, b⟩
          have HW : Hid _ := HW.out.below b
          clear b
          go_wp2
          go_ret
          exact ⟨rfl, HW.out.h⟩
        · skip
          have hn1 : n > LB := hnl
          go_wp2_with fail
          refine (does_any _).mono ?_
          rintro e w6 ⟨rfl, b⟩
          have HW : Hid _ := HW.out.below b
          clear b
          go_wp2
          go_ret
          exact ⟨rfl, HW.out.h⟩
    | some p =>
      obtain ⟨⟨xs, xc⟩, R1⟩ := p
      obtain ⟨-, hn1, hok⟩ := takeT_some hT
      have hxn : xc = n := hok.cnt
      subst xc
      have hma := take_n hT
      simp only at hma
      have hR1l := take_len hT
      have hFl := HF.out.len
      have hBk : Hid (giveT R1 ⟨xs, n⟩ = some F) := back_runs hT
      have hTt : Hid (totL R1 = totL F - n) := tot_take hT
      have hAtB : Hid (xs = atB n F) := atB_take hT
      clear hok
      go_wp2_with fail
      refine (take_yes n HF.out (by omega) (by omega) hT).mono ?_
      rintro e w4 ⟨ra, rc, rfl, hR, b⟩
      have HR1 : Hid _ := hR
      clear hR hT
      have HW : Hid _ := HW.out.below b
      have HF : Hid _ := HF.out.below b
      clear b
      obtain ⟨w4x, hw4x, b, HAh⟩ := box_made w4 xs n
      obtain ⟨ab, hab⟩ : ∃ ab, w4.heap.size = ab := ⟨_, rfl⟩
      rw [hab] at HAh
      have HW : Hid _ := HW.out.below b
      have HF : Hid _ := HF.out.below b
      have HR1 : Hid _ := HR1.out.below b
      clear b
      have HA : Hid _ := HAh
      clear HAh
      go_wp2
      clear hw4x hab

      go_loopw [11, 12, 13] (fun lv av iv wy => wy = w4x ∧ ∃ m : Nat, m ≤ F.length ∧ iv = .int .i64 m ∧ lv = .int .i64 (longB (F.take m)) ∧ av = .int .i64 (atB n (F.take m))) (fun _ _ iv _ => F.length - (intOf iv).toNat)
      case atStart => exact ⟨rfl, 0, Nat.zero_le _, rfl, rfl, rfl⟩
      case round =>
        obtain ⟨rfl, j, hj, rfl, rfl, rfl⟩ := hrel
        by_cases hlt : j < F.length
        · obtain ⟨x, hx⟩ : ∃ x, F[j]? = some x := ⟨_, List.getElem?_eq_getElem hlt⟩
          obtain ⟨b, o, rfl, hk⟩ := HF.out.at_.cells.2 j x hx
          obtain ⟨c1, c2⟩ := hk _ (Below.refl _ _)
          have hlt3 : (j : Int) < (F.length : Int) := by omega
          have hpc := chk_part HF.out.chk j
          have hxo := oneB_iff.1 (chk_one HF.out.chk x (List.mem_of_getElem? hx))
          have hta : F.take (j + 1) = F.take j ++ [x] := by rw [List.take_add_one, hx]; rfl
          have HLo : Hid ((if longB (F.take j) < x.c then x.c else longB (F.take j)) = longB (F.take (j + 1))) := by show _ = _; rw [hta, longB_snoc _ _ (by omega)]; split <;> omega
          have HAt : Hid (atB n (F.take (j + 1)) = if atB n (F.take j) < 0 then (if n ≤ x.c then x.s else -1) else atB n (F.take j)) := by show _ = _; rw [hta, atB_snoc _ _ hpc]
          have hlb := longB_bound hpc
          have hab := (atB_neg (n := n) hpc).2
          clear hx hk hta hpc
          generalize longB (F.take j) = L0 at *
          generalize atB n (F.take j) = A0 at *
          obtain ⟨xs, xc⟩ := x
          simp only at c1 c2 hxo HLo HAt
          have hcase : (A0 < 0 ∧ n ≤ xc) ∨ (A0 < 0 ∧ ¬ n ≤ xc) ∨ ¬ A0 < 0 := by
            by_cases q1 : A0 < 0
            · by_cases q2 : n ≤ xc
              · exact .inl ⟨q1, q2⟩
              · exact .inr (.inl ⟨q1, q2⟩)
            · exact .inr (.inr q1)
          rcases hcase with ⟨q1, q2⟩ | ⟨q1, q2⟩ | q1
          · have HA1 : Hid (atB n (F.take (j + 1)) = xs) := by show _ = _; rw [HAt.out, if_pos q1, if_pos q2]
            clear HAt
            go_wp2
            go_roundw
            case rel => exact ⟨by first | rfl | trivial, j + 1, by omega, by go_num, by rw [← HLo.out], by rw [HA1.out]⟩
            case measure => simp [intOf]; omega
          · have HA1 : Hid (atB n (F.take (j + 1)) = A0) := by show _ = _; rw [HAt.out, if_pos q1, if_neg q2, hab.2 q1]
            clear HAt
            go_wp2
            go_roundw
            case rel => exact ⟨by first | rfl | trivial, j + 1, by omega, by go_num, by rw [← HLo.out], by rw [HA1.out]⟩
            case measure => simp [intOf]; omega
          · have HA1 : Hid (atB n (F.take (j + 1)) = A0) := by show _ = _; rw [HAt.out, if_neg q1]
            clear HAt
            go_wp2
            go_roundw
            case rel => exact ⟨by first | rfl | trivial, j + 1, by omega, by go_num, by rw [← HLo.out], by rw [HA1.out]⟩
            case measure => simp [intOf]; omega
        obtain rfl : j = F.length := by omega
        have hlt3 : ¬ ((F.length : Nat) : Int) < (F.length : Int) := by omega
        have hTL : F.take F.length = F := List.take_of_length_le (Nat.le_refl _)
        have hAt2 : atB n F = xs := hAtB.out.symm
        rw [hTL, hAt2]
        clear hTL hAt2
        generalize longB F = LB at *
        have hAo := HA.out.h
        go_wp2_with (first | (refine load_box rfl (.tmp 8) rfl ab xs n (0, 0) rfl hAo ?_) | fail)
        refine (give_yes ⟨xs, n⟩ HR1.out (by omega) (by simp only; omega) (by simp only; omega) hBk.out).mono ?_
        rintro e w6 ⟨xa, xc2, rfl, hR, b⟩
        have HX : Hid _ := hR
        clear hR hAo hBk
        have HW : Hid _ := HW.out.below b
        have HF : Hid _ := HF.out.below b
        have HR1 : Hid _ := HR1.out.below b
        have HA : Hid _ := HA.out.below b
        clear b
        have d0 := HA.out.c0
        have d1 := HA.out.c1
        have t1 := tot_fits (l := F)
        have t3 : wrap64 (totL F - n) = totL F - n := by unfold wrap64; omega
        go_wp2_with fail
        refine (check_rl HR1.out).mono ?_
        rintro e w7 ⟨rfl, b⟩
        clear d0 d1
        have HW : Hid _ := HW.out.below b
        have HF : Hid _ := HF.out.below b
        have HR1 : Hid _ := HR1.out.below b
        have HA : Hid _ := HA.out.below b
        have HX : Hid _ := HX.out.below b
        clear b
        go_wp2_with fail
        refine (total_rl HR1.out).mono ?_
        rintro e w8 ⟨rfl, b⟩
        rw [hTt.out]
        have HW : Hid _ := HW.out.below b
        have HF : Hid _ := HF.out.below b
        have HR1 : Hid _ := HR1.out.below b
        have HA : Hid _ := HA.out.below b
        have HX : Hid _ := HX.out.below b
        clear b
        go_wp2_with fail
        refine (total_rl HF.out).mono ?_
        rintro e w9 ⟨rfl, b⟩
        have HW : Hid _ := HW.out.below b
        have HF : Hid _ := HF.out.below b
        have HR1 : Hid _ := HR1.out.below b
        have HA : Hid _ := HA.out.below b
        have HX : Hid _ := HX.out.below b
        clear b
        go_wp2_with fail
        refine (same_rl HX.out HF.out).mono ?_
        rintro e w10 ⟨rfl, b⟩
        rw [sameB_iff.2 rfl]
        have HW : Hid _ := HW.out.below b
        have HF : Hid _ := HF.out.below b
        have HR1 : Hid _ := HR1.out.below b
        have HA : Hid _ := HA.out.below b
        have HX : Hid _ := HX.out.below b
        clear b
        go_wp2_with fail
        refine (does_any w10).mono ?_
        rintro e w11 ⟨rfl, b⟩
        have HW : Hid _ := HW.out.below b
        have HF : Hid _ := HF.out.below b
        have HR1 : Hid _ := HR1.out.below b
        have HA : Hid _ := HA.out.below b
        have HX : Hid _ := HX.out.below b
        clear b
        go_wp2
        go_ret
        exact ⟨rfl, HW.out.h⟩
end Go.Proofs.Ytbnfhhjgalphgaa
