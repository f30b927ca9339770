/- The walk of the law PacksCount. -/
import Derived.Test.YtalofhnjlmgloaaDoorNh
namespace Go.Proofs.YtalofhnjlmgloaaDoor
open Go.RowKit

set_option maxRecDepth 100000 in
set_option maxHeartbeats 1000000 in
theorem countL_any (n : Int) (w : World) (h0 : 0 ≤ n) (h1 : n < 18446744073709551616) (hT : Tab w) (hT4 : Tab4 w) :
    Calls Tryd.prog 8 #[.int .u64 n] w fun e w' => e = .returned (.bool true) ∧ Below w.heap.size w w' := by
  have HDo : Hid (Calls Tryd.prog 14 #[] w fun e w' => e = .returned (.bool true) ∧ Below w.heap.size w w') := pdoes_any w hT hT4
  obtain ⟨k, hk⟩ : ∃ k : Int, n % 1099511627776 = k := ⟨_, rfl⟩
  have k0 : 0 ≤ k := by omega
  have k1 : k < 1099511627776 := by omega
  have HC1 : Hid (Calls Tryd.prog 12 #[.int .i64 k] w fun e w' => e = .returned (.int .i64 (cntN k.toNat)) ∧ w' = w) := by
    have := count_any k w (by omega) (by omega)
    rwa [show cntI k = (cntN k.toNat : Int) by unfold cntI; rw [if_neg (by omega)]] at this
  have HC2 : Hid (Calls Tryd.prog 12 #[.int .i64 (k + 112)] w fun e w' => e = .returned (.int .i64 (if k = 0 then 1 else (cntN k.toNat : Int) + 1)) ∧ w' = w) := by
    have := count_any (k + 112) w (by omega) (by omega)
    rwa [show cntI (k + 112) = (if k = 0 then 1 else (cntN k.toNat : Int) + 1) by
      unfold cntI; rw [if_neg (by omega), show (k + 112).toNat = k.toNat + 112 by omega]
      by_cases hz : k = 0
      · subst hz; rfl
      · rw [if_neg hz, cntN_add _ (by omega)]; rfl] at this
  have hc0 := cntN_pos k.toNat
  have hc1 := cntN_le k.toNat
  have hc2 : cntN k.toNat = 1 ∨ 112 * (cntN k.toNat - 1) < k.toNat := by
    by_cases h : cntN k.toNat = 1
    · exact .inl h
    · exact .inr (cntN_lt (by omega) (by omega))
  have hc3 : cntN k.toNat ≤ 10000000000 := by unfold cntN; split <;> omega
  generalize cntN k.toNat = C at *
  have d1 : (1 : Int) ≤ (C : Int) := by omega
  have d2 : k ≤ (C : Int) * 112 := by omega
  have d3 : (C : Int) = 1 ∨ ((C : Int) - 1) * 112 < k := by omega
  have d4 : (C : Int) ≤ 10000000000 := by omega
  clear hc0 hc1 hc2 hc3
  by_cases hz : k = 0
  · subst hz
    rw [if_pos rfl] at HC2
    rcases d3 with d3 | d3
    · obtain rfl : C = 1 := by omega
      go_enter Tryd.func8, Tryd.ntmps8
      go_wp2_with fail
      refine HC1.out.mono ?_
      rintro e' w1 ⟨rfl, rfl⟩
      go_wp2_with fail
      refine HC2.out.mono ?_
      rintro e' w2 ⟨rfl, rfl⟩
      go_wp2_with fail
      refine HDo.out.mono ?_
      rintro e' w3 ⟨rfl, hb⟩
      have HB : Hid _ := hb
      clear hb
      go_wp2
      go_ret
      exact ⟨rfl, HB.out⟩
    · by_cases d5 : C = 1
      · subst d5
        go_enter Tryd.func8, Tryd.ntmps8
        go_wp2_with fail
        refine HC1.out.mono ?_
        rintro e' w1 ⟨rfl, rfl⟩
        go_wp2_with fail
        refine HC2.out.mono ?_
        rintro e' w2 ⟨rfl, rfl⟩
        go_wp2_with fail
        refine HDo.out.mono ?_
        rintro e' w3 ⟨rfl, hb⟩
        have HB : Hid _ := hb
        clear hb
        go_wp2
        go_ret
        exact ⟨rfl, HB.out⟩
      · have d6 : ((C : Int) == 1) = false := by simp; omega
        go_enter Tryd.func8, Tryd.ntmps8
        go_wp2_with fail
        refine HC1.out.mono ?_
        rintro e' w1 ⟨rfl, rfl⟩
        go_wp2_with fail
        refine HC2.out.mono ?_
        rintro e' w2 ⟨rfl, rfl⟩
        go_wp2_with fail
        refine HDo.out.mono ?_
        rintro e' w3 ⟨rfl, hb⟩
        have HB : Hid _ := hb
        clear hb
        go_wp2
        go_ret
        exact ⟨rfl, HB.out⟩
  · rw [if_neg hz] at HC2
    have hz2 : (k == 0) = false := by simpa using hz
    rcases d3 with d3 | d3
    · obtain rfl : C = 1 := by omega
      go_enter Tryd.func8, Tryd.ntmps8
      go_wp2_with fail
      refine HC1.out.mono ?_
      rintro e' w1 ⟨rfl, rfl⟩
      go_wp2_with fail
      refine HC2.out.mono ?_
      rintro e' w2 ⟨rfl, rfl⟩
      go_wp2_with fail
      refine HDo.out.mono ?_
      rintro e' w3 ⟨rfl, hb⟩
      have HB : Hid _ := hb
      clear hb
      go_wp2
      go_ret
      exact ⟨rfl, HB.out⟩
    · by_cases d5 : C = 1
      · subst d5
        go_enter Tryd.func8, Tryd.ntmps8
        go_wp2_with fail
        refine HC1.out.mono ?_
        rintro e' w1 ⟨rfl, rfl⟩
        go_wp2_with fail
        refine HC2.out.mono ?_
        rintro e' w2 ⟨rfl, rfl⟩
        go_wp2_with fail
        refine HDo.out.mono ?_
        rintro e' w3 ⟨rfl, hb⟩
        have HB : Hid _ := hb
        clear hb
        go_wp2
        go_ret
        exact ⟨rfl, HB.out⟩
      · have d6 : ((C : Int) == 1) = false := by simp; omega
        go_enter Tryd.func8, Tryd.ntmps8
        go_wp2_with fail
        refine HC1.out.mono ?_
        rintro e' w1 ⟨rfl, rfl⟩
        go_wp2_with fail
        refine HC2.out.mono ?_
        rintro e' w2 ⟨rfl, rfl⟩
        go_wp2_with fail
        refine HDo.out.mono ?_
        rintro e' w3 ⟨rfl, hb⟩
        have HB : Hid _ := hb
        clear hb
        go_wp2
        go_ret
        exact ⟨rfl, HB.out⟩
end Go.Proofs.YtalofhnjlmgloaaDoor
