/- The law RunsTwice (layer 7). -/
import Derived.Test.YtbnfhhjgalphgabZn
namespace Go.Proofs.Ytbnfhhjgalphgab
open Go.RowKit

set_option maxRecDepth 100000 in
set_option maxHeartbeats 4000000 in
theorem twice_walk {W : World} {v : Value} {l : List Int} {n m : Int} (h : U8At W v l) (hn : 0 ≤ n ∧ n ≤ 255) (hm : 0 ≤ m ∧ m ≤ 255) : Calls Try.prog 3 #[v, .int .u8 n, .int .u8 m] W fun e w' => e = .returned (.bool true) ∧ Below W.heap.size W w' := by
  obtain ⟨_, a, q, rfl, _⟩ := id h
  by_cases h2 : 300 < l.length
  · have h3 : (l.length : Int) > 300 := by omega
    clear h
    go_enter Try.func3, Try.ntmps3
    go_wp2
    go_ret
    exact ⟨rfl, Below.refl _ _⟩
  have h3 : ¬ (l.length : Int) > 300 := by omega
  obtain ⟨y, hy⟩ : ∃ y, n.tmod 8 = y := ⟨_, rfl⟩
  have hy0 : 0 ≤ y ∧ y < 8 := by have : n.tmod 8 = n % 8 := Int.tmod_eq_emod_of_nonneg hn.1; omega
  obtain ⟨z, hz⟩ : ∃ z, m.tmod 8 = z := ⟨_, rfl⟩
  have hz0 : 0 ≤ z ∧ z < 8 := by have : m.tmod 8 = m % 8 := Int.tmod_eq_emod_of_nonneg hm.1; omega
  have hwy : wrap64 (1 + y) = 1 + y := by unfold wrap64; omega
  have hwz : wrap64 (1 + z) = 1 + z := by unfold wrap64; omega
  have hst : (stL l).length ≤ 300 := by rw [stL_length]; omega
  have HU : Hid (U8At W (.slice a l.length q) l) := h
  clear h
  go_enter Try.func3, Try.ntmps3
  go_wp2_with fail
  refine (states_rl HU.out (by omega)).mono ?_
  rintro e w1 ⟨sa, sc, rfl, hsc, hN⟩
  have HW : Hid (BW W w1) := ⟨hN.below⟩
  have HN : Hid (∀ x, x = w1 → Nu W W.heap.size (.slice sa l.length sc) (stL l) x) := fun x hx => by rw [hx]; exact hN
  have b := Below.refl w1.heap.size w1
  clear hN HU
  clear b
  generalize stL l = st at *
  go_wp2_with fail
  refine ((HN.out w1 rfl).free hsc (by omega)).mono ?_
  rintro e w2 ⟨fa, fc, rfl, hF, b⟩
  have HF : Hid _ := hF
  clear hF HN
  have HW : Hid _ := HW.out.below b
  clear b
  have hFl : (freeL st).length ≤ 300 := Nat.le_trans (free_len st) hst
  generalize freeL st = F at *
  cases hT : takeT F (1 + y) with
  | none =>
    go_wp2_with fail
    refine (take_no (1 + y) HF.out (by omega) (by omega) hT).mono ?_
    rintro e w3 ⟨rfl, b⟩
    have HW : Hid _ := HW.out.below b
    have HF : Hid _ := HF.out.below b
    clear b
    have HWa : Hid (∀ o, BW W (w3.alloc o)) := fun o => HW.out.below ((Below.refl _ _).alloc (Nat.le_refl _) o)
    go_wp2_with fail
    refine (does_any _).mono ?_
    rintro e w4 ⟨rfl, b⟩
    have HW : Hid _ := (HWa.out _).below b
    clear b
    go_wp2
    go_ret
    exact ⟨rfl, HW.out.h⟩
  | some p =>
    obtain ⟨⟨ms, mc⟩, R1⟩ := p
    have hma := take_n hT
    simp only at hma
    have hR1l := take_len hT
    go_wp2_with fail
    refine (take_yes (1 + y) HF.out (by omega) (by omega) hT).mono ?_
    rintro e w3 ⟨ra, rc, rfl, hR, b⟩
    have HR1 : Hid _ := hR
    clear hR
    have HW : Hid _ := HW.out.below b
    have HF : Hid _ := HF.out.below b
    clear b
    obtain ⟨w3x, hw3x, b, HAh⟩ := box_made w3 ms mc
    obtain ⟨ab, hab⟩ : ∃ ab, w3.heap.size = ab := ⟨_, rfl⟩
    rw [hab] at HAh
    have HW : Hid _ := HW.out.below b
    have HF : Hid _ := HF.out.below b
    have HR1 : Hid _ := HR1.out.below b
    clear b
    have HA : Hid _ := HAh
    clear HAh
    cases hT2 : takeT R1 (1 + z) with
    | none =>
      go_wp2_with fail
      clear hw3x hab
      refine (take_no (1 + z) HR1.out (by omega) (by omega) hT2).mono ?_
      rintro e w4 ⟨rfl, b⟩
      have HW : Hid _ := HW.out.below b
      have HF : Hid _ := HF.out.below b
      have HR1 : Hid _ := HR1.out.below b
      have HA : Hid _ := HA.out.below b
      clear b
      have HWa : Hid (∀ o, BW W (w4.alloc o)) := fun o => HW.out.below ((Below.refl _ _).alloc (Nat.le_refl _) o)
      go_wp2_with fail
      refine (does_any _).mono ?_
      rintro e w5 ⟨rfl, b⟩
      have HW : Hid _ := (HWa.out _).below b
      clear b
      go_wp2
      go_ret
      exact ⟨rfl, HW.out.h⟩
    | some p =>
      obtain ⟨⟨ns, nc⟩, R2⟩ := p
      have hmb := take_n hT2
      simp only at hmb
      have hR2l := take_len hT2
      obtain ⟨⟨C, hC1, hC2⟩, ⟨E, hE1, hE2⟩⟩ := twice_back hT hT2
      have hap := twice_apart hT hT2
      have hCl := give_len hC1
      have hEl := give_len hE1
      clear hT
      go_wp2_with fail
      clear hw3x hab
      refine (take_yes (1 + z) HR1.out (by omega) (by omega) hT2).mono ?_
      rintro e w4 ⟨ta, tc, rfl, hR, b⟩
      have HR2 : Hid _ := hR
      clear hR hT2
      have HW : Hid _ := HW.out.below b
      have HF : Hid _ := HF.out.below b
      have HR1 : Hid _ := HR1.out.below b
      have HA : Hid _ := HA.out.below b
      clear b
      obtain ⟨w4x, hw4x, b, HBh⟩ := box_made w4 ns nc
      obtain ⟨bb, hbb⟩ : ∃ bb, w4.heap.size = bb := ⟨_, rfl⟩
      rw [hbb] at HBh
      have HW : Hid _ := HW.out.below b
      have HF : Hid _ := HF.out.below b
      have HR1 : Hid _ := HR1.out.below b
      have HA : Hid _ := HA.out.below b
      have HR2 : Hid _ := HR2.out.below b
      clear b
      have HB : Hid _ := HBh
      clear HBh
      have d0 := HA.out.c0
      have d1 := HA.out.c1
      have d2 := HB.out.c0
      have d3 := HB.out.c1
      have s1 : wrap64 (ns + nc) = ns + nc := by unfold wrap64; omega
      have s2 : wrap64 (ms + mc) = ms + mc := by unfold wrap64; omega
      have hcase : ¬ ms < ns + nc ∨ (ms < ns + nc ∧ ¬ ns < ms + mc) := by
        by_cases h1 : ms < ns + nc
        · refine .inr ⟨h1, fun h2 => ?_⟩
          rw [meetB_iff.2 ⟨h1, h2⟩] at hap
          cases hap
        · exact .inl h1
      clear hap
      rcases hcase with h1 | ⟨h1, h1b⟩
      · skip
        have HAo := HA.out.h
        have HBo := HB.out.h
        go_wp2_with (first | (refine load_box rfl (.tmp 8) rfl ab ms mc (0, 0) rfl HAo ?_) | fail)
        clear hw4x hbb d0 d1 d2 d3
        refine (give_yes ⟨ms, mc⟩ HR2.out (by omega) (by simp only; omega) (by simp only; omega) hC1).mono ?_
        rintro e w5 ⟨Ca, Cc, rfl, hR, b⟩
        have HC : Hid _ := hR
        clear hR HAo HBo
        have HW : Hid _ := HW.out.below b
        have HF : Hid _ := HF.out.below b
        have HR1 : Hid _ := HR1.out.below b
        have HA : Hid _ := HA.out.below b
        have HR2 : Hid _ := HR2.out.below b
        have HB : Hid _ := HB.out.below b
        clear b
        have HAo := HA.out.h
        have HBo := HB.out.h
        go_wp2_with (first | (refine load_box rfl (.tmp 11) rfl bb ns nc (0, 0) rfl HBo ?_) | fail)
        refine (give_yes ⟨ns, nc⟩ HC.out (by omega) (by simp only; omega) (by simp only; omega) hC2).mono ?_
        rintro e w6 ⟨Da, Dc, rfl, hR, b⟩
        have HD : Hid _ := hR
        clear hR HAo HBo
        have HW : Hid _ := HW.out.below b
        have HF : Hid _ := HF.out.below b
        have HR1 : Hid _ := HR1.out.below b
        have HA : Hid _ := HA.out.below b
        have HR2 : Hid _ := HR2.out.below b
        have HB : Hid _ := HB.out.below b
        have HC : Hid _ := HC.out.below b
        clear b
        have HAo := HA.out.h
        have HBo := HB.out.h
        go_wp2_with (first | (refine load_box rfl (.tmp 11) rfl bb ns nc (0, 0) rfl HBo ?_) | fail)
        refine (give_yes ⟨ns, nc⟩ HR2.out (by omega) (by simp only; omega) (by simp only; omega) hE1).mono ?_
        rintro e w7 ⟨Ea, Ec, rfl, hR, b⟩
        have HE : Hid _ := hR
        clear hR HAo HBo
        have HW : Hid _ := HW.out.below b
        have HF : Hid _ := HF.out.below b
        have HR1 : Hid _ := HR1.out.below b
        have HA : Hid _ := HA.out.below b
        have HR2 : Hid _ := HR2.out.below b
        have HB : Hid _ := HB.out.below b
        have HC : Hid _ := HC.out.below b
        have HD : Hid _ := HD.out.below b
        clear b
        have HAo := HA.out.h
        have HBo := HB.out.h
        go_wp2_with (first | (refine load_box rfl (.tmp 8) rfl ab ms mc (0, 0) rfl HAo ?_) | fail)
        refine (give_yes ⟨ms, mc⟩ HE.out (by omega) (by simp only; omega) (by simp only; omega) hE2).mono ?_
        rintro e w8 ⟨Xa, Xc, rfl, hR, b⟩
        have HX : Hid _ := hR
        clear hR HAo HBo
        have HW : Hid _ := HW.out.below b
        have HF : Hid _ := HF.out.below b
        have HR1 : Hid _ := HR1.out.below b
        have HA : Hid _ := HA.out.below b
        have HR2 : Hid _ := HR2.out.below b
        have HB : Hid _ := HB.out.below b
        have HC : Hid _ := HC.out.below b
        have HD : Hid _ := HD.out.below b
        have HE : Hid _ := HE.out.below b
        clear b
        have HAo := HA.out.h
        have HBo := HB.out.h
        clear HAo HBo hC1 hC2 hE1 hE2
        go_wp2_with fail
        refine (same_rl HD.out HF.out).mono ?_
        rintro e w9 ⟨rfl, b⟩
        rw [sameB_iff.2 rfl]
        have HW : Hid _ := HW.out.below b
        have HF : Hid _ := HF.out.below b
        have HR1 : Hid _ := HR1.out.below b
        have HA : Hid _ := HA.out.below b
        have HR2 : Hid _ := HR2.out.below b
        have HB : Hid _ := HB.out.below b
        have HC : Hid _ := HC.out.below b
        have HD : Hid _ := HD.out.below b
        have HE : Hid _ := HE.out.below b
        have HX : Hid _ := HX.out.below b
        clear b
        go_wp2_with fail
        refine (same_rl HX.out HF.out).mono ?_
        rintro e w10 ⟨rfl, b⟩
        rw [sameB_iff.2 rfl]
        have HW : Hid _ := HW.out.below b
        have HF : Hid _ := HF.out.below b
        have HR1 : Hid _ := HR1.out.below b
        have HA : Hid _ := HA.out.below b
        have HR2 : Hid _ := HR2.out.below b
        have HB : Hid _ := HB.out.below b
        have HC : Hid _ := HC.out.below b
        have HD : Hid _ := HD.out.below b
        have HE : Hid _ := HE.out.below b
        have HX : Hid _ := HX.out.below b
        clear b
        go_wp2_with fail
        refine (does_any w10).mono ?_
        rintro e w11 ⟨rfl, b⟩
        have HW : Hid _ := HW.out.below b
        have HF : Hid _ := HF.out.below b
        have HR1 : Hid _ := HR1.out.below b
        have HA : Hid _ := HA.out.below b
        have HR2 : Hid _ := HR2.out.below b
        have HB : Hid _ := HB.out.below b
        have HC : Hid _ := HC.out.below b
        have HD : Hid _ := HD.out.below b
        have HE : Hid _ := HE.out.below b
        have HX : Hid _ := HX.out.below b
        clear b
        go_wp2
        go_ret
        exact ⟨rfl, HW.out.h⟩
      · skip
        have HAo := HA.out.h
        have HBo := HB.out.h
        go_wp2_with (first | (refine load_box rfl (.tmp 8) rfl ab ms mc (0, 0) rfl HAo ?_) | fail)
        clear hw4x hbb d0 d1 d2 d3
        refine (give_yes ⟨ms, mc⟩ HR2.out (by omega) (by simp only; omega) (by simp only; omega) hC1).mono ?_
        rintro e w5 ⟨Ca, Cc, rfl, hR, b⟩
        have HC : Hid _ := hR
        clear hR HAo HBo
        have HW : Hid _ := HW.out.below b
        have HF : Hid _ := HF.out.below b
        have HR1 : Hid _ := HR1.out.below b
        have HA : Hid _ := HA.out.below b
        have HR2 : Hid _ := HR2.out.below b
        have HB : Hid _ := HB.out.below b
        clear b
        have HAo := HA.out.h
        have HBo := HB.out.h
        go_wp2_with (first | (refine load_box rfl (.tmp 11) rfl bb ns nc (0, 0) rfl HBo ?_) | fail)
        refine (give_yes ⟨ns, nc⟩ HC.out (by omega) (by simp only; omega) (by simp only; omega) hC2).mono ?_
        rintro e w6 ⟨Da, Dc, rfl, hR, b⟩
        have HD : Hid _ := hR
        clear hR HAo HBo
        have HW : Hid _ := HW.out.below b
        have HF : Hid _ := HF.out.below b
        have HR1 : Hid _ := HR1.out.below b
        have HA : Hid _ := HA.out.below b
        have HR2 : Hid _ := HR2.out.below b
        have HB : Hid _ := HB.out.below b
        have HC : Hid _ := HC.out.below b
        clear b
        have HAo := HA.out.h
        have HBo := HB.out.h
        go_wp2_with (first | (refine load_box rfl (.tmp 11) rfl bb ns nc (0, 0) rfl HBo ?_) | fail)
        refine (give_yes ⟨ns, nc⟩ HR2.out (by omega) (by simp only; omega) (by simp only; omega) hE1).mono ?_
        rintro e w7 ⟨Ea, Ec, rfl, hR, b⟩
        have HE : Hid _ := hR
        clear hR HAo HBo
        have HW : Hid _ := HW.out.below b
        have HF : Hid _ := HF.out.below b
        have HR1 : Hid _ := HR1.out.below b
        have HA : Hid _ := HA.out.below b
        have HR2 : Hid _ := HR2.out.below b
        have HB : Hid _ := HB.out.below b
        have HC : Hid _ := HC.out.below b
        have HD : Hid _ := HD.out.below b
        clear b
        have HAo := HA.out.h
        have HBo := HB.out.h
        go_wp2_with (first | (refine load_box rfl (.tmp 8) rfl ab ms mc (0, 0) rfl HAo ?_) | fail)
        refine (give_yes ⟨ms, mc⟩ HE.out (by omega) (by simp only; omega) (by simp only; omega) hE2).mono ?_
        rintro e w8 ⟨Xa, Xc, rfl, hR, b⟩
        have HX : Hid _ := hR
        clear hR HAo HBo
        have HW : Hid _ := HW.out.below b
        have HF : Hid _ := HF.out.below b
        have HR1 : Hid _ := HR1.out.below b
        have HA : Hid _ := HA.out.below b
        have HR2 : Hid _ := HR2.out.below b
        have HB : Hid _ := HB.out.below b
        have HC : Hid _ := HC.out.below b
        have HD : Hid _ := HD.out.below b
        have HE : Hid _ := HE.out.below b
        clear b
        have HAo := HA.out.h
        have HBo := HB.out.h
        clear HAo HBo hC1 hC2 hE1 hE2
        go_wp2_with fail
        refine (same_rl HD.out HF.out).mono ?_
        rintro e w9 ⟨rfl, b⟩
        rw [sameB_iff.2 rfl]
        have HW : Hid _ := HW.out.below b
        have HF : Hid _ := HF.out.below b
        have HR1 : Hid _ := HR1.out.below b
        have HA : Hid _ := HA.out.below b
        have HR2 : Hid _ := HR2.out.below b
        have HB : Hid _ := HB.out.below b
        have HC : Hid _ := HC.out.below b
        have HD : Hid _ := HD.out.below b
        have HE : Hid _ := HE.out.below b
        have HX : Hid _ := HX.out.below b
        clear b
        go_wp2_with fail
        refine (same_rl HX.out HF.out).mono ?_
        rintro e w10 ⟨rfl, b⟩
        rw [sameB_iff.2 rfl]
        have HW : Hid _ := HW.out.below b
        have HF : Hid _ := HF.out.below b
        have HR1 : Hid _ := HR1.out.below b
        have HA : Hid _ := HA.out.below b
        have HR2 : Hid _ := HR2.out.below b
        have HB : Hid _ := HB.out.below b
        have HC : Hid _ := HC.out.below b
        have HD : Hid _ := HD.out.below b
        have HE : Hid _ := HE.out.below b
        have HX : Hid _ := HX.out.below b
        clear b
        go_wp2_with fail
        refine (does_any w10).mono ?_
        rintro e w11 ⟨rfl, b⟩
        have HW : Hid _ := HW.out.below b
        have HF : Hid _ := HF.out.below b
        have HR1 : Hid _ := HR1.out.below b
        have HA : Hid _ := HA.out.below b
        have HR2 : Hid _ := HR2.out.below b
        have HB : Hid _ := HB.out.below b
        have HC : Hid _ := HC.out.below b
        have HD : Hid _ := HD.out.below b
        have HE : Hid _ := HE.out.below b
        have HX : Hid _ := HX.out.below b
        clear b
        go_wp2
        go_ret
        exact ⟨rfl, HW.out.h⟩
end Go.Proofs.Ytbnfhhjgalphgab
