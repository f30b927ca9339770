/- The walk of the law ShaTwins: two writers know nothing of one another, whatever is written to them in turn. -/
import Derived.Test.YtiajbepbhfojnabDoorSt
namespace Go.Proofs.YtiajbepbhfojnabDoor
open Go.RowKit

set_option maxRecDepth 100000 in
set_option maxHeartbeats 3200000 in
theorem twins_walk (ba oa la ca bb ob lb cb : Nat) (ga gb : Nat → List UInt8) (w : World) (hK : TabK w) (hna : la ≤ 20) (hnb : lb ≤ 20)
    (hca : ∀ i, i < la → w.cell? ⟨ba, oa + i, none⟩ = some (.string (S (ga i)))) (hcb : ∀ i, i < lb → w.cell? ⟨bb, ob + i, none⟩ = some (.string (S (gb i))))
    (hsa : ∀ i, i < la → (ga i).length ≤ 140737488351232) (hsb : ∀ i, i < lb → (gb i).length ≤ 140737488351232)
    (ao bo : Option Addr) (hao : 0 < la → ao = some ⟨ba, oa, none⟩) (hbo : 0 < lb → bo = some ⟨bb, ob, none⟩) :
    Calls Tryd.prog 3 #[.slice ao la ca, .slice bo lb cb] w fun e w' => e = .returned (.bool true) ∧ Below w.heap.size w w' := by
  have hn1 : decide ((20 : Int) < (la : Int)) = false := decide_eq_false (by omega)
  have hn2 : decide ((20 : Int) < (lb : Int)) = false := decide_eq_false (by omega)
  have hbwa : 0 < la → ba < w.heap.size := fun h => World.block_lt_of_cell? w _ (hca 0 h)
  have hbwb : 0 < lb → bb < w.heap.size := fun h => World.block_lt_of_cell? w _ (hcb 0 h)
  go_enter Tryd.func3, Tryd.ntmps3
  go_wp2_with fail
  refine (new_any _).mono ?_
  rintro e w1 ⟨rfl, W1, b1⟩
  have HW1 : Hid _ := W1
  clear W1
  go_wp2_with fail
  refine (new_any _).mono ?_
  rintro e w2 ⟨rfl, W2, b2⟩
  have HT : Hid _ := Two.start hK b1 HW1.out b2 W2
  obtain ⟨q, hq⟩ : ∃ q, q = w1.heap.size := ⟨_, rfl⟩
  rw [← hq] at HT ⊢
  clear W2 b2 b1 HW1 hq
  go_wp2
  go_loopw [7, 8, 9] (fun s t i wr => ∃ (k : Nat) (x y : List UInt8), k ≤ 20 ∧ x.length ≤ 2000 ∧ y.length ≤ 2000 ∧ s = .string (S x) ∧ t = .string (S y) ∧ i = .int .i64 k ∧ Two w w.heap.size q x y wr) (fun _ _ i _ => 20 - (intOf i).toNat)
  case atStart => exact ⟨0, [], [], by omega, by decide, by decide, rfl, rfl, rfl, HT.out⟩
  case round =>
    obtain ⟨k, x, y, hk, hx, hy, rfl, rfl, rfl, hT⟩ := hrel
    clear HT
    by_cases ha : k < la
    · have haa := hao (by omega)
      subst haa
      have hcx : wr.cell? ⟨ba, oa + k, none⟩ = some (.string (S (ga k))) := (hT.below.cell (by exact hbwa (by omega))).trans (hca k ha)
      have hsx := hsa k ha
      have i1 : (k : Int) < (la : Int) := by omega
      have HT : Hid _ := hT
      clear hT
      by_cases hov : 2000 < x.length + (ga k).length
      · have t1 : (2000 : Int) < (x.length : Int) + ((ga k).length : Int) := by omega
        clear hca hcb hsa hsb
        go_wp2
        go_ret
        exact ⟨rfl, HT.out.below⟩
      · have t1 : ¬ (2000 : Int) < (x.length : Int) + ((ga k).length : Int) := by omega
        have hcat : S x ++ S (ga k) = S (x ++ ga k) := S_append _ _
        have hsum : ¬ 9223372036854775807 < x.length + (ga k).length := by omega
        have HA : Hid (Calls Tryd.prog 5 #[.pointer (some ⟨w.heap.size, 0, none⟩), .string (S (ga k))] wr fun e w' => e = .returned (.int .i64 0) ∧ Two w w.heap.size q (x ++ ga k) y w') := two_write1 (ga k) HT.out (by omega)
        have HLx : Hid ((x ++ ga k).length ≤ 2000) := by show _ ≤ _; simp; omega
        generalize hSx : S (x ++ ga k) = Sx at *
        have HX : Hid (Value.string Sx = .string (S (x ++ ga k))) := by show _ = _; rw [hSx]
        clear hSx
        have HCA : Hid _ := hca
        have HCB : Hid _ := hcb
        have HSA : Hid _ := hsa
        have HSB : Hid _ := hsb
        clear hca hcb hsa hsb
        go_wp2_with fail
        refine HA.out.mono ?_
        rintro e wa ⟨rfl, ha2⟩
        have HA2 : Hid _ := ha2
        have hca := HCA.out
        have hcb := HCB.out
        have hsa := HSA.out
        have hsb := HSB.out
        clear ha2 hcx hsx t1 hcat hsum HT HA HCA HCB HSA HSB
        by_cases hb : k < lb
        · have hbb := hbo (by omega)
          subst hbb
          have hcx : wa.cell? ⟨bb, ob + k, none⟩ = some (.string (S (gb k))) := (HA2.out.below.cell (by exact hbwb (by omega))).trans (hcb k hb)
          have hsx := hsb k hb
          have j1 : (k : Int) < (lb : Int) := by omega
          by_cases hov : 2000 < y.length + (gb k).length
          · have t1 : (2000 : Int) < (y.length : Int) + ((gb k).length : Int) := by omega
            clear hca hcb hsa hsb
            go_wp2
            go_ret
            exact ⟨rfl, HA2.out.below⟩
          · have t1 : ¬ (2000 : Int) < (y.length : Int) + ((gb k).length : Int) := by omega
            have hcat : S y ++ S (gb k) = S (y ++ gb k) := S_append _ _
            have hsum : ¬ 9223372036854775807 < y.length + (gb k).length := by omega
            have HB : Hid (Calls Tryd.prog 5 #[.pointer (some ⟨q, 0, none⟩), .string (S (gb k))] wa fun e w' => e = .returned (.int .i64 0) ∧ Two w w.heap.size q (x ++ ga k) (y ++ gb k) w') := two_write2 (gb k) HA2.out (by omega)
            have HLy : Hid ((y ++ gb k).length ≤ 2000) := by show _ ≤ _; simp; omega
            clear hca hcb hsa hsb
            generalize hSy : S (y ++ gb k) = Sy at *
            have HSy : Hid (Value.string Sy = .string (S (y ++ gb k))) := by show _ = _; rw [hSy]
            clear hSy
            go_wp2_with fail
            refine HB.out.mono ?_
            rintro e wb ⟨rfl, hb2⟩
            have HB2 : Hid _ := hb2
            clear hb2
            go_wp2
            go_roundw
            case rel =>
              first
              | exact ⟨k + 1, x ++ ga k, y ++ gb k, by omega, HLx.out, HLy.out, HX.out, HSy.out, by go_num, HB2.out⟩
              | ((repeat apply Exists.intro); exact ⟨⟨k + 1, x ++ ga k, y ++ gb k, by omega, HLx.out, HLy.out, HX.out, HSy.out, by go_num, HB2.out⟩, rfl⟩)
            case measure => simp [intOf]; omega
        · have j1 : ¬ (k : Int) < (lb : Int) := by omega
          clear hca hcb hsa hsb
          go_wp2
          go_roundw
          case rel =>
            first
            | exact ⟨k + 1, x ++ ga k, y, by omega, HLx.out, hy, HX.out, rfl, by go_num, HA2.out⟩
            | ((repeat apply Exists.intro); exact ⟨⟨k + 1, x ++ ga k, y, by omega, HLx.out, hy, HX.out, rfl, by go_num, HA2.out⟩, rfl⟩)
          case measure => simp [intOf]; omega
    · have i1 : ¬ (k : Int) < (la : Int) := by omega
      have HT : Hid _ := hT
      have HLx : Hid (x.length ≤ 2000) := hx
      clear hT
      by_cases hb : k < lb
      · have hbb := hbo (by omega)
        subst hbb
        have hcx : wr.cell? ⟨bb, ob + k, none⟩ = some (.string (S (gb k))) := (HT.out.below.cell (by exact hbwb (by omega))).trans (hcb k hb)
        have hsx := hsb k hb
        have j1 : (k : Int) < (lb : Int) := by omega
        by_cases hov : 2000 < y.length + (gb k).length
        · have t1 : (2000 : Int) < (y.length : Int) + ((gb k).length : Int) := by omega
          clear hca hcb hsa hsb
          go_wp2
          go_ret
          exact ⟨rfl, HT.out.below⟩
        · have t1 : ¬ (2000 : Int) < (y.length : Int) + ((gb k).length : Int) := by omega
          have hcat : S y ++ S (gb k) = S (y ++ gb k) := S_append _ _
          have hsum : ¬ 9223372036854775807 < y.length + (gb k).length := by omega
          have HB : Hid (Calls Tryd.prog 5 #[.pointer (some ⟨q, 0, none⟩), .string (S (gb k))] wr fun e w' => e = .returned (.int .i64 0) ∧ Two w w.heap.size q (x) (y ++ gb k) w') := two_write2 (gb k) HT.out (by omega)
          have HLy : Hid ((y ++ gb k).length ≤ 2000) := by show _ ≤ _; simp; omega
          clear hca hcb hsa hsb
          generalize hSy : S (y ++ gb k) = Sy at *
          have HSy : Hid (Value.string Sy = .string (S (y ++ gb k))) := by show _ = _; rw [hSy]
          clear hSy
          go_wp2_with fail
          refine HB.out.mono ?_
          rintro e wb ⟨rfl, hb2⟩
          have HB2 : Hid _ := hb2
          clear hb2
          go_wp2
          go_roundw
          case rel =>
            first
            | exact ⟨k + 1, x, y ++ gb k, by omega, HLx.out, HLy.out, rfl, HSy.out, by go_num, HB2.out⟩
            | ((repeat apply Exists.intro); exact ⟨⟨k + 1, x, y ++ gb k, by omega, HLx.out, HLy.out, rfl, HSy.out, by go_num, HB2.out⟩, rfl⟩)
          case measure => simp [intOf]; omega
      · have j1 : ¬ (k : Int) < (lb : Int) := by omega
        have HC1 : Hid (∀ wx, Two w w.heap.size q x y wx → Calls Tryd.prog 6 #[.pointer (some ⟨w.heap.size, 0, none⟩)] wx fun e w' => e = .returned (.agg (hv (shaL x))) ∧ Two w w.heap.size q x y w') := fun wx h => two_sum1 h (by omega)
        have HC2 : Hid (∀ wx, Two w w.heap.size q x y wx → Calls Tryd.prog 6 #[.pointer (some ⟨q, 0, none⟩)] wx fun e w' => e = .returned (.agg (hv (shaL y))) ∧ Two w w.heap.size q x y w') := fun wx h => two_sum2 h (by omega)
        have HD1 : Hid (∀ wx, Two w w.heap.size q x y wx → Calls Tryd.prog 7 #[.string (S x)] wx fun e w' => e = .returned (.agg (hv (shaL x))) ∧ Two w w.heap.size q x y w') := fun wx h => two_hash x h (by omega)
        have HD2 : Hid (∀ wx, Two w w.heap.size q x y wx → Calls Tryd.prog 7 #[.string (S y)] wx fun e w' => e = .returned (.agg (hv (shaL y))) ∧ Two w w.heap.size q x y w') := fun wx h => two_hash y h (by omega)
        have heq1 := eq_self x
        have heq2 := eq_self y
        clear hca hcb hsa hsb
        generalize hv (shaL x) = D at *
        generalize hv (shaL y) = E at *
        go_wp2_with fail
        refine (HC1.out _ HT.out).mono ?_
        rintro e wa ⟨rfl, h1⟩
        go_wp2_with fail
        refine (HD1.out _ h1).mono ?_
        rintro e wb ⟨rfl, h2⟩
        go_wp2_with fail
        refine (HC2.out _ h2).mono ?_
        rintro e wc ⟨rfl, h3⟩
        go_wp2_with fail
        refine (HD2.out _ h3).mono ?_
        rintro e wd ⟨rfl, h4⟩
        go_wp2_with fail
        refine (two_does h4).mono ?_
        rintro e we ⟨rfl, h5⟩
        go_wp2
        go_ret
        exact ⟨rfl, h5.below⟩
end Go.Proofs.YtiajbepbhfojnabDoor
