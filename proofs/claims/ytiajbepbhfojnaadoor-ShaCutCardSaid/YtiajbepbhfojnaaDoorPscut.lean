/- The walk of the law ShaCut: it makes no difference how a text is cut into Writes, nor whether a Sum is asked between. -/
import Derived.Test.YtiajbepbhfojnaaDoorSt
import Derived.Deep.RegionHeld3
import Derived.Deep.DrawnRows
namespace Go.Proofs.YtiajbepbhfojnaaDoor
open Go.RowKit
attribute [local go_sem ↓] Go.wp_at_zero Go.wp_at_succ

set_option linter.unusedSimpArgs false in
set_option maxRecDepth 100000 in
set_option maxHeartbeats 3200000 in
theorem scut_walk (l : List UInt8) (b off len cap : Nat) (f : Nat → Int) (w : World) (hK : TabK w) (hll : l.length ≤ 3000) (hn : len ≤ 20)
    (hc : ∀ i, i < len → w.cell? ⟨b, off + i, none⟩ = some (.int .u16 (f i))) (hf : ∀ i, i < len → 0 ≤ f i ∧ f i ≤ 65535) (ao : Option Addr) (hao : 0 < len → ao = some ⟨b, off, none⟩) :
    Calls Tryd.prog 5 #[.string (S l), .slice ao len cap] w fun e w' => e = .returned (.bool true) ∧ Below w.heap.size w w' := by
  have hnl : decide ((3000 : Int) < (l.length : Int)) = false := decide_eq_false (by omega)
  have hn2 : ¬ (20 : Int) < (len : Int) := by omega
  have hsz : (S l).size = l.length := S_size l
  have hbw : 0 < len → b < w.heap.size := fun h => World.block_lt_of_cell? w _ (hc 0 h)
  have HLL : Hid (l.length ≤ 3000) := hll
  go_enter Tryd.func5, Tryd.ntmps5
  go_wp2_with fail
  refine (new_any _).mono ?_
  rintro e w1 ⟨rfl, W1, b1⟩
  have HW1 : Hid _ := W1
  clear W1
  go_wp2_with fail
  refine (new_any _).mono ?_
  rintro e w2 ⟨rfl, W2, b2⟩
  have HT : Hid _ := Two.start hK b1 HW1.out b2 W2
  have hpw : w1.heap.size = w1.heap.size := rfl
  obtain ⟨q, hq⟩ : ∃ q, q = w1.heap.size := ⟨_, rfl⟩
  rw [← hq] at HT ⊢
  clear W2 b2 b1 HW1 hpw hq
  go_wp2
  go_loopw [7, 8] (fun t i wr => ∃ k j : Nat, k ≤ len ∧ j ≤ l.length ∧ t = .int .i64 j ∧ i = .int .i64 k ∧ Two w w.heap.size q (l.take j) (l.take j) wr) (fun _ i _ => len - (intOf i).toNat)
  case atStart => exact ⟨0, 0, Nat.zero_le _, Nat.zero_le _, rfl, rfl, HT.out⟩
  case round =>
    obtain ⟨k, j, hk, hj, rfl, rfl, hT⟩ := hrel
    clear HT
    by_cases hlt : k < len
    · have haa := hao (by omega)
      subst haa
      have hcx : wr.cell? ⟨b, off + k, none⟩ = some (.int .u16 (f k)) := (hT.below.cell (by exact hbw (by omega))).trans (hc k hlt)
      obtain ⟨f0, f1⟩ := hf k hlt
      obtain ⟨d, hd⟩ : ∃ d : Nat, (f k).toNat % (l.length - j + 1) = d := ⟨_, rfl⟩
      obtain ⟨r, hr⟩ : ∃ r : Nat, r = j + d := ⟨_, rfl⟩
      have hfm : f k % ((l.length : Int) - (j : Int) + 1) = (d : Int) := by
        have : f k = ((f k).toNat : Int) := by omega
        rw [this, show (l.length : Int) - (j : Int) + 1 = ((l.length - j + 1 : Nat) : Int) by omega, ← Int.natCast_emod]
        omega
      have hjr : (j : Int) + (d : Int) = (r : Int) := by omega
      have hrl : r ≤ l.length := by
        have := Nat.mod_lt (f k).toNat (show 0 < l.length - j + 1 by omega)
        omega
      have i1 : (k : Int) < (len : Int) := by omega
      have i2 : (r : Int) ≤ (l.length : Int) := by omega
      have i3 : (j : Int) ≤ (r : Int) := by omega
      have i5 : (0 : Int) ≤ (j : Int) := by omega
      have i6 : (0 : Int) ≤ (r : Int) := by omega
      have i4 : (l.length : Int) ≤ 3000 := by omega
      have hll3 := HLL.out
      have hx1 : (S l).extract j r = S ((l.take r).drop j) := ext_mid l j r
      have hx0 : (S l).extract 0 r = S (l.take r) := by rw [ext_mid l 0 r]; rfl
      have hcat : l.take j ++ (l.take r).drop j = l.take r := by
        have : l.take j = (l.take r).take j := by rw [List.take_take, Nat.min_eq_left (by omega)]
        rw [this, List.take_append_drop]
      have HA : Hid (∀ wx, Two w w.heap.size q (l.take j) (l.take j) wx → Calls Tryd.prog 15 #[.pointer (some ⟨w.heap.size, 0, none⟩), .string (S ((l.take r).drop j))] wx fun e w' => e = .returned (.int .i64 0) ∧ Two w w.heap.size q (l.take r) (l.take j) w') := fun wx h => by
        have := two_write1 ((l.take r).drop j) h (by simp; omega)
        rwa [hcat] at this
      have HB : Hid (∀ wx, Two w w.heap.size q (l.take r) (l.take j) wx → Calls Tryd.prog 15 #[.pointer (some ⟨q, 0, none⟩), .string (S ((l.take r).drop j))] wx fun e w' => e = .returned (.int .i64 0) ∧ Two w w.heap.size q (l.take r) (l.take r) w') := fun wx h => by
        have := two_write2 ((l.take r).drop j) h (by simp; omega)
        rwa [hcat] at this
      have HC : Hid (∀ wx, Two w w.heap.size q (l.take r) (l.take r) wx → Calls Tryd.prog 16 #[.pointer (some ⟨q, 0, none⟩)] wx fun e w' => e = .returned (.agg (hv (shaL (l.take r)))) ∧ Two w w.heap.size q (l.take r) (l.take r) w') := fun wx h => two_sum2 h (by simp; omega)
      have HD : Hid (∀ wx, Two w w.heap.size q (l.take r) (l.take r) wx → Calls Tryd.prog 9 #[.string (S (l.take r))] wx fun e w' => e = .returned (.agg (hv (shaL (l.take r)))) ∧ Two w w.heap.size q (l.take r) (l.take r) w') := fun wx h => two_hash (l.take r) h (by simp; omega)
      have hne := neq_self (l.take r)
      have HT : Hid _ := hT
      have HR : Hid (r ≤ l.length) := hrl
      clear hT hr hd hc hf hcat hrl hll3
      generalize hv (shaL (l.take r)) = D at *
      generalize S ((l.take r).drop j) = X1 at *
      generalize S (l.take r) = X0 at *
      by_cases hpar : k % 2 = 0
      · have hp : (k : Int) % 2 = 0 := by omega
        have hp1 : (k : Int).tmod 2 = 0 := by rw [Int.tmod_eq_emod_of_nonneg (by omega)]; exact hp
        clear hpar
        go_wp2
        go_region_held3 (fun _ => True) (trivial) (first | (go_at_call_of 15 w.heap.size; refine (HA.out _ HT.out.drew).mono ?_; rintro e wa ⟨rfl, ha⟩) | (go_at_call_of 15 q; refine (HB.out _ ha).mono ?_; rintro e wb ⟨rfl, hb⟩) | (go_at_call 16; refine (HC.out _ hb).mono ?_; rintro e wc ⟨rfl, hc⟩) | (go_at_call 9; refine (HD.out _ hc).mono ?_; rintro e wd ⟨rfl, hd⟩))
        go_wp2
        go_roundw
        case rel =>
          first
          | exact ⟨k + 1, r, by omega, HR.out, rfl, by go_num, hd⟩
          | ((repeat apply Exists.intro); exact ⟨⟨k + 1, r, by omega, HR.out, rfl, by go_num, hd⟩, rfl⟩)
        case measure => simp [intOf]; omega
      · have hp : (k : Int) % 2 = 1 := by omega
        have hp1 : (k : Int).tmod 2 = 1 := by rw [Int.tmod_eq_emod_of_nonneg (by omega)]; exact hp
        clear hpar
        go_wp2
        refine wp_region_held (S := fun _ => True) (by kernel_rfl) ?_
        change wpAnyH _ _ _ _ _ _ _ _ (World.drew _)
        refine wpAnyH_take (i := 0) (v := .pointer (some ⟨w.heap.size, 0, none⟩)) rfl (by kernel_rfl) (by kernel_rfl) (by kernel_rfl) (fun _ _ _ h => h) (Or.inl ⟨by rfl, by intro w _; go_simp⟩) trivial ?_
        simp only [List.getElem_toArray, List.getElem_cons_succ, List.getElem_cons_zero, Act.put, List.setIfInBounds_toArray, List.set_cons_zero, List.set_cons_succ]
        refine wpAnyH_take (i := 1) (v := .string (S l)) rfl (by kernel_rfl) (by kernel_rfl) (by kernel_rfl) (fun _ _ _ h => h) (Or.inl ⟨by rfl, by intro w _; go_simp⟩) trivial ?_
        simp only [List.getElem_toArray, List.getElem_cons_succ, List.getElem_cons_zero, Act.put, List.setIfInBounds_toArray, List.set_cons_zero, List.set_cons_succ]
        refine wpAnyH_take (i := 2) (v := .int .i64 j) rfl (by kernel_rfl) (by kernel_rfl) (by kernel_rfl) (fun _ _ _ h => h) (Or.inl ⟨by rfl, by intro w _; go_simp⟩) trivial ?_
        simp only [List.getElem_toArray, List.getElem_cons_succ, List.getElem_cons_zero, Act.put, List.setIfInBounds_toArray, List.set_cons_zero, List.set_cons_succ]
        refine wpAnyH_take (i := 3) (v := .int .i64 r) rfl (by kernel_rfl) (by kernel_rfl) (by kernel_rfl) (fun _ _ _ h => h) (Or.inl ⟨by rfl, by intro w _; go_simp⟩) trivial ?_
        simp only [List.getElem_toArray, List.getElem_cons_succ, List.getElem_cons_zero, Act.put, List.setIfInBounds_toArray, List.set_cons_zero, List.set_cons_succ]
        refine wpAnyH_take (i := 4) (v := .string X1) rfl (by kernel_rfl) (by kernel_rfl) (by kernel_rfl) (fun _ _ _ h => h) (Or.inl ⟨by rfl, by intro w _; go_simp⟩) trivial ?_
        simp only [List.getElem_toArray, List.getElem_cons_succ, List.getElem_cons_zero, Act.put, List.setIfInBounds_toArray, List.set_cons_zero, List.set_cons_succ]
        refine wpAnyH_ready (rs := [5]) (by kernel_rfl) (by simp) (AllReadyH.cons (by simp only [List.getElem?_toArray, List.getElem?_cons_succ, List.getElem?_cons_zero]; rfl) (fun K hK => ?_) AllReadyH.nil)
        refine step_want (by rfl) ?_
        go_simp
        refine (HA.out _ HT.out.drew).mono ?_
        rintro e wa ⟨rfl, ha⟩
        refine hK.out _ _ trivial (fun _ => ?_)
        clear hK K
        try simp only [List.getElem_toArray, List.getElem_cons_succ, List.getElem_cons_zero, Act.put, List.setIfInBounds_toArray, List.set_cons_zero, List.set_cons_succ]
        refine wpAnyH_take (i := 6) (v := .bool false) rfl (by kernel_rfl) (by kernel_rfl) (by kernel_rfl) (fun _ _ _ h => h) (Or.inl ⟨by rfl, by intro w _; go_simp⟩) trivial ?_
        simp only [List.getElem_toArray, List.getElem_cons_succ, List.getElem_cons_zero, Act.put, List.setIfInBounds_toArray, List.set_cons_zero, List.set_cons_succ]
        refine wpAnyH_take (i := 7) (v := .bool false) rfl (by kernel_rfl) (by kernel_rfl) (by kernel_rfl) (fun _ _ _ h => h) (Or.inl ⟨by rfl, by intro w _; go_simp⟩) trivial ?_
        simp only [List.getElem_toArray, List.getElem_cons_succ, List.getElem_cons_zero, Act.put, List.setIfInBounds_toArray, List.set_cons_zero, List.set_cons_succ]
        refine wpAnyH_take (i := 8) (v := .pointer (some ⟨q, 0, none⟩)) rfl (by kernel_rfl) (by kernel_rfl) (by kernel_rfl) (fun _ _ _ h => h) (Or.inl ⟨by rfl, by intro w _; go_simp⟩) trivial ?_
        simp only [List.getElem_toArray, List.getElem_cons_succ, List.getElem_cons_zero, Act.put, List.setIfInBounds_toArray, List.set_cons_zero, List.set_cons_succ]
        refine wpAnyH_take (i := 9) (v := .string (S l)) rfl (by kernel_rfl) (by kernel_rfl) (by kernel_rfl) (fun _ _ _ h => h) (Or.inl ⟨by rfl, by intro w _; go_simp⟩) trivial ?_
        simp only [List.getElem_toArray, List.getElem_cons_succ, List.getElem_cons_zero, Act.put, List.setIfInBounds_toArray, List.set_cons_zero, List.set_cons_succ]
        refine wpAnyH_take (i := 10) (v := .int .i64 j) rfl (by kernel_rfl) (by kernel_rfl) (by kernel_rfl) (fun _ _ _ h => h) (Or.inl ⟨by rfl, by intro w _; go_simp⟩) trivial ?_
        simp only [List.getElem_toArray, List.getElem_cons_succ, List.getElem_cons_zero, Act.put, List.setIfInBounds_toArray, List.set_cons_zero, List.set_cons_succ]
        refine wpAnyH_take (i := 11) (v := .int .i64 r) rfl (by kernel_rfl) (by kernel_rfl) (by kernel_rfl) (fun _ _ _ h => h) (Or.inl ⟨by rfl, by intro w _; go_simp⟩) trivial ?_
        simp only [List.getElem_toArray, List.getElem_cons_succ, List.getElem_cons_zero, Act.put, List.setIfInBounds_toArray, List.set_cons_zero, List.set_cons_succ]
        refine wpAnyH_take (i := 12) (v := .string X1) rfl (by kernel_rfl) (by kernel_rfl) (by kernel_rfl) (fun _ _ _ h => h) (Or.inl ⟨by rfl, by intro w _; go_simp⟩) trivial ?_
        simp only [List.getElem_toArray, List.getElem_cons_succ, List.getElem_cons_zero, Act.put, List.setIfInBounds_toArray, List.set_cons_zero, List.set_cons_succ]
        refine wpAnyH_ready (rs := [13]) (by kernel_rfl) (by simp) (AllReadyH.cons (by simp only [List.getElem?_toArray, List.getElem?_cons_succ, List.getElem?_cons_zero]; rfl) (fun K hK => ?_) AllReadyH.nil)
        refine step_want (by rfl) ?_
        go_simp
        refine (HB.out _ ha).mono ?_
        rintro e wb ⟨rfl, hb⟩
        refine hK.out _ _ trivial (fun _ => ?_)
        clear hK K
        try simp only [List.getElem_toArray, List.getElem_cons_succ, List.getElem_cons_zero, Act.put, List.setIfInBounds_toArray, List.set_cons_zero, List.set_cons_succ]
        refine wpAnyH_take (i := 14) (v := .bool false) rfl (by kernel_rfl) (by kernel_rfl) (by kernel_rfl) (fun _ _ _ h => h) (Or.inl ⟨by rfl, by intro w _; go_simp⟩) trivial ?_
        simp only [List.getElem_toArray, List.getElem_cons_succ, List.getElem_cons_zero, Act.put, List.setIfInBounds_toArray, List.set_cons_zero, List.set_cons_succ]
        refine wpAnyH_take (i := 15) (v := .bool false) rfl (by kernel_rfl) (by kernel_rfl) (by kernel_rfl) (fun _ _ _ h => h) (Or.inl ⟨by rfl, by intro w _; go_simp⟩) trivial ?_
        simp only [List.getElem_toArray, List.getElem_cons_succ, List.getElem_cons_zero, Act.put, List.setIfInBounds_toArray, List.set_cons_zero, List.set_cons_succ]
        refine wpAnyH_take (i := 16) (v := .bool false) rfl (by kernel_rfl) (by kernel_rfl) (by kernel_rfl) (fun _ _ _ h => h) (Or.inl ⟨by rfl, by intro w _; go_simp⟩) trivial ?_
        simp only [List.getElem_toArray, List.getElem_cons_succ, List.getElem_cons_zero, Act.put, List.setIfInBounds_toArray, List.set_cons_zero, List.set_cons_succ]
        refine wpAnyH_take (i := 17) (v := .int .i64 k) rfl (by kernel_rfl) (by kernel_rfl) (by kernel_rfl) (fun _ _ _ h => h) (Or.inl ⟨by rfl, by intro w _; go_simp⟩) trivial ?_
        simp only [List.getElem_toArray, List.getElem_cons_succ, List.getElem_cons_zero, Act.put, List.setIfInBounds_toArray, List.set_cons_zero, List.set_cons_succ]
        refine wpAnyH_take (i := 18) (v := .int .i64 1) rfl (by kernel_rfl) (by kernel_rfl) (by kernel_rfl) (fun _ _ _ h => h) (Or.inl ⟨by rfl, by intro w _; go_simp⟩) trivial ?_
        simp only [List.getElem_toArray, List.getElem_cons_succ, List.getElem_cons_zero, Act.put, List.setIfInBounds_toArray, List.set_cons_zero, List.set_cons_succ]
        refine wpAnyH_take (i := 19) (v := .bool false) rfl (by kernel_rfl) (by kernel_rfl) (by kernel_rfl) (fun _ _ _ h => h) (Or.inl ⟨by rfl, by intro w _; go_simp⟩) trivial ?_
        simp only [List.getElem_toArray, List.getElem_cons_succ, List.getElem_cons_zero, Act.put, List.setIfInBounds_toArray, List.set_cons_zero, List.set_cons_succ]
        refine wpAnyH_take (i := 20) (v := .bool false) rfl (by kernel_rfl) (by kernel_rfl) (by kernel_rfl) (fun _ _ _ h => h) (Or.inl ⟨by rfl, by intro w _; go_simp⟩) trivial ?_
        simp only [List.getElem_toArray, List.getElem_cons_succ, List.getElem_cons_zero, Act.put, List.setIfInBounds_toArray, List.set_cons_zero, List.set_cons_succ]
        refine wpAnyH_take (i := 21) (v := undef) rfl (by kernel_rfl) (by kernel_rfl) (by kernel_rfl) (fun _ _ _ h => h) (Or.inr ⟨by rfl, rfl⟩) trivial ?_
        simp only [List.getElem_toArray, List.getElem_cons_succ, List.getElem_cons_zero, Act.put, List.setIfInBounds_toArray, List.set_cons_zero, List.set_cons_succ]
        refine wpAnyH_take (i := 22) (v := undef) rfl (by kernel_rfl) (by kernel_rfl) (by kernel_rfl) (fun _ _ _ h => h) (Or.inr ⟨by rfl, rfl⟩) trivial ?_
        simp only [List.getElem_toArray, List.getElem_cons_succ, List.getElem_cons_zero, Act.put, List.setIfInBounds_toArray, List.set_cons_zero, List.set_cons_succ]
        refine wpAnyH_take (i := 23) (v := undef) rfl (by kernel_rfl) (by kernel_rfl) (by kernel_rfl) (fun _ _ _ h => h) (Or.inr ⟨by rfl, rfl⟩) trivial ?_
        simp only [List.getElem_toArray, List.getElem_cons_succ, List.getElem_cons_zero, Act.put, List.setIfInBounds_toArray, List.set_cons_zero, List.set_cons_succ]
        refine wpAnyH_take (i := 24) (v := undef) rfl (by kernel_rfl) (by kernel_rfl) (by kernel_rfl) (fun _ _ _ h => h) (Or.inr ⟨by rfl, rfl⟩) trivial ?_
        simp only [List.getElem_toArray, List.getElem_cons_succ, List.getElem_cons_zero, Act.put, List.setIfInBounds_toArray, List.set_cons_zero, List.set_cons_succ]
        refine wpAnyH_take (i := 25) (v := undef) rfl (by kernel_rfl) (by kernel_rfl) (by kernel_rfl) (fun _ _ _ h => h) (Or.inr ⟨by rfl, rfl⟩) trivial ?_
        simp only [List.getElem_toArray, List.getElem_cons_succ, List.getElem_cons_zero, Act.put, List.setIfInBounds_toArray, List.set_cons_zero, List.set_cons_succ]
        refine wpAnyH_take (i := 26) (v := undef) rfl (by kernel_rfl) (by kernel_rfl) (by kernel_rfl) (fun _ _ _ h => h) (Or.inr ⟨by rfl, rfl⟩) trivial ?_
        simp only [List.getElem_toArray, List.getElem_cons_succ, List.getElem_cons_zero, Act.put, List.setIfInBounds_toArray, List.set_cons_zero, List.set_cons_succ]
        refine wpAnyH_take (i := 27) (v := undef) rfl (by kernel_rfl) (by kernel_rfl) (by kernel_rfl) (fun _ _ _ h => h) (Or.inr ⟨by rfl, rfl⟩) trivial ?_
        simp only [List.getElem_toArray, List.getElem_cons_succ, List.getElem_cons_zero, Act.put, List.setIfInBounds_toArray, List.set_cons_zero, List.set_cons_succ]
        refine wpAnyH_take (i := 28) (v := .bool false) rfl (by kernel_rfl) (by kernel_rfl) (by kernel_rfl) (fun _ _ _ h => h) (Or.inl ⟨by rfl, by intro w _; go_simp⟩) trivial ?_
        simp only [List.getElem_toArray, List.getElem_cons_succ, List.getElem_cons_zero, Act.put, List.setIfInBounds_toArray, List.set_cons_zero, List.set_cons_succ]
        refine wpAnyH_take (i := 29) (v := .bool false) rfl (by kernel_rfl) (by kernel_rfl) (by kernel_rfl) (fun _ _ _ h => h) (Or.inl ⟨by rfl, by intro w _; go_simp⟩) trivial ?_
        simp only [List.getElem_toArray, List.getElem_cons_succ, List.getElem_cons_zero, Act.put, List.setIfInBounds_toArray, List.set_cons_zero, List.set_cons_succ]
        refine wpAnyH_done (by kernel_rfl) ?_ _
        go_wp2
        go_roundw
        case rel =>
          first
          | exact ⟨k + 1, r, by omega, HR.out, rfl, by go_num, hb⟩
          | ((repeat apply Exists.intro); exact ⟨⟨k + 1, r, by omega, HR.out, rfl, by go_num, hb⟩, rfl⟩)
        case measure => simp [intOf]; omega
    · obtain rfl : k = len := by omega
      have hx2 : (S l).extract j (S l).size = S (l.drop j) := ext_drop l j
      rw [hsz] at hx2
      have hcat : l.take j ++ l.drop j = l := List.take_append_drop j l
      have hll3 := HLL.out
      have HA : Hid (∀ wx, Two w w.heap.size q (l.take j) (l.take j) wx → Calls Tryd.prog 15 #[.pointer (some ⟨w.heap.size, 0, none⟩), .string (S (l.drop j))] wx fun e w' => e = .returned (.int .i64 0) ∧ Two w w.heap.size q l (l.take j) w') := fun wx h => by
        have := two_write1 (l.drop j) h (by simp; omega)
        rwa [hcat] at this
      have HB : Hid (∀ wx, Two w w.heap.size q l (l.take j) wx → Calls Tryd.prog 15 #[.pointer (some ⟨q, 0, none⟩), .string (S (l.drop j))] wx fun e w' => e = .returned (.int .i64 0) ∧ Two w w.heap.size q l l w') := fun wx h => by
        have := two_write2 (l.drop j) h (by simp; omega)
        rwa [hcat] at this
      have HC1 : Hid (∀ wx, Two w w.heap.size q l l wx → Calls Tryd.prog 16 #[.pointer (some ⟨w.heap.size, 0, none⟩)] wx fun e w' => e = .returned (.agg (hv (shaL l))) ∧ Two w w.heap.size q l l w') := fun wx h => two_sum1 h (by omega)
      have HC2 : Hid (∀ wx, Two w w.heap.size q l l wx → Calls Tryd.prog 16 #[.pointer (some ⟨q, 0, none⟩)] wx fun e w' => e = .returned (.agg (hv (shaL l))) ∧ Two w w.heap.size q l l w') := fun wx h => two_sum2 h (by omega)
      have HD : Hid (∀ wx, Two w w.heap.size q l l wx → Calls Tryd.prog 9 #[.string (S l)] wx fun e w' => e = .returned (.agg (hv (shaL l))) ∧ Two w w.heap.size q l l w') := fun wx h => two_hash l h (by omega)
      have heq := eq_self l
      have HT : Hid _ := hT
      have i2 : (j : Int) ≤ (l.length : Int) := by omega
      have i5 : (0 : Int) ≤ (j : Int) := by omega
      clear hT hc hf hcat hll3
      generalize hv (shaL l) = D at *
      generalize S (l.drop j) = X1 at *
      go_wp2_with fail
      refine (HA.out _ HT.out).mono ?_
      rintro e wa ⟨rfl, ha⟩
      go_wp2_with fail
      refine (HB.out _ ha).mono ?_
      rintro e wb ⟨rfl, hb⟩
      go_wp2_with fail
      refine (HC1.out _ hb).mono ?_
      rintro e wc ⟨rfl, hc⟩
      go_wp2_with fail
      refine (HD.out _ hc).mono ?_
      rintro e wd ⟨rfl, hd⟩
      go_wp2_with fail
      refine (HC2.out _ hd).mono ?_
      rintro e we ⟨rfl, he⟩
      go_wp2_with fail
      refine (HD.out _ he).mono ?_
      rintro e wf ⟨rfl, hf⟩
      go_wp2_with fail
      refine (two_does hf).mono ?_
      rintro e wg ⟨rfl, hg⟩
      go_wp2
      go_ret
      exact ⟨rfl, hg.below⟩
end Go.Proofs.YtiajbepbhfojnaaDoor
