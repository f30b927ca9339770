/- The walk of the law PacksBack. -/
import Derived.Test.YtalofhnjlmgloaaDoorNh
import Derived.Test.YtalofhnjlmgloaaDoorNj
namespace Go.Proofs.YtalofhnjlmgloaaDoor
open Go.RowKit

set_option maxRecDepth 100000 in
set_option maxHeartbeats 4000000 in
theorem packback_any (q p : Int) (d : List UInt8) (w : World) (q0 : 0 ≤ q) (q1 : q ≤ 255) (p0 : 0 ≤ p) (p1 : p ≤ 4294967295) (hT : Tab w) (hT4 : Tab4 w) :
    Calls Tryd.prog 5 #[.int .u8 q, .int .u32 p, .string (S d)] w fun e w' => e = .returned (.bool true) ∧ Below w.heap.size w w' := by
  by_cases hl : 3000 < d.length
  · have hsz : (3000 : Int) < ((S d).size : Int) := by rw [S_size]; omega
    generalize S d = D at *
    go_enter Tryd.func5, Tryd.ntmps5
    go_wp2
    go_ret
    exact ⟨rfl, Below.refl _ _⟩
  have hsz : ¬ (3000 : Int) < ((S d).size : Int) := by rw [S_size]; omega
  have hsz2 : ((S d).size : Int) = (d.length : Int) := by rw [S_size]
  have hk := knd_may q
  have HK : Hid (∀ w : World, Calls Tryd.prog 18 #[.int .u8 q] w fun e w' => e = .returned (.int .u8 (kndN q)) ∧ w' = w) := fun w => kind_any q w q0 q1
  generalize kndN q = k at *
  obtain ⟨n, hn⟩ : ∃ n : Int, 1 + p / 4 % 1073741824 = n := ⟨_, rfl⟩
  have n0 : 1 ≤ n := by omega
  have n1 : n ≤ 1073741824 := by omega
  have hc : cntN d.length ≤ 65536 := by unfold cntN; split <;> omega
  have hu : underB k n = true := by unfold underB; rw [hk]; simp [epochB]; omega
  have hE : splitE k n d = 0 := splitE_ok.2 ⟨hc, hu⟩
  have hB : splitL k n d = blkL k n d := splitL_ok hE
  have HSp : Hid (∀ w1 : World, Ts w [] w1 → Calls Tryd.prog 9 #[.int .u8 k, .int .i64 n, .string (S d)] w1 fun r w' => ∃ a c, r = .returned (.tuple #[.slice a (cntN d.length) c, .int .i64 0]) ∧ Ts w [(.slice a (cntN d.length) c, blkL k n d)] w') := fun w1 h => by
    refine (ts_split h k n d (by omega)).mono fun r w' hh => ?_
    obtain ⟨a, c, rfl, _, _, ht⟩ := hh
    rw [hE, hB, blkL_length] at *
    exact ⟨a, c, rfl, ht⟩
  have HCn : Hid (∀ w : World, Calls Tryd.prog 12 #[.int .i64 d.length] w fun e w' => e = .returned (.int .i64 (cntN d.length)) ∧ w' = w) := fun w => by
    have := count_any d.length w (by omega) (by omega)
    rwa [show cntI (d.length : Int) = (cntN d.length : Int) by unfold cntI; rw [if_neg (by omega), Int.toNat_natCast]] at this
  have HDc : Hid (∀ (i : Nat) (w : World), i < cntN d.length → Tab w → Tab4 w → Calls Tryd.prog 19 #[.string (S (encL (frP k n d i)))] w fun e w' => e = .returned (.tuple #[.agg #[.int .u8 k, .int .i64 n, .int .i64 i, .string (S (cut d (112 * i) 112))], .int .i64 0]) ∧ Below w.heap.size w w') := fun i w hi h h4 => by
    have := decode_any (encL (frP k n d i)) w h h4
    rw [(blk_dec hE hi).2, decE_ok.2 (blk_dec hE hi).1] at this
    exact this
  have HGet : Hid (∀ i, i < cntN d.length → (blkL k n d)[i]? = some (encL (frP k n d i))) := fun i hi => blkL_get hi
  have HJ1 : Hid (∀ (w1 : World) (v : Value), Ts w [(v, blkL k n d)] w1 → Calls Tryd.prog 16 #[v, .int .u8 k, .int .i64 n] w1 fun r w' => r = .returned (.tuple #[.string (S d), .int .i64 0]) ∧ Ts w [(v, blkL k n d)] w') := fun w1 v h => by
    have := ts_join h h.head k n (by rw [blkL_length]; omega)
    rwa [(join_split hE).2.1, (join_split hE).2.2] at this
  have HJ2 : Hid (∀ (w1 : World) (v : Value), Ts w [(v, blkL k n d)] w1 → Calls Tryd.prog 16 #[v, .int .u8 k, .int .i64 (n + 1)] w1 fun r w' => r = .returned (.tuple #[.string (S (joinL (blkL k n d) k (n + 1))), .int .i64 10]) ∧ Ts w [(v, blkL k n d)] w') := fun w1 v h => by
    have := ts_join h h.head k (n + 1) (by rw [blkL_length]; omega)
    rwa [(join_no (blk_other hE (by omega))).2] at this
  have HDo : Hid (∀ w1, Tab w1 → Tab4 w1 → Calls Tryd.prog 14 #[] w1 fun e w' => e = .returned (.bool true) ∧ Below w1.heap.size w1 w') := fun w1 a b => pdoes_any w1 a b
  have HX0 : Hid (Ts w [] w) := Ts.start hT hT4
  have c0 := cntN_pos d.length
  have HLn : Hid (∀ i, (S (cut d (112 * i) 112)).size ≤ 112) := fun i => by rw [S_size]; exact frP_len k n d i
  have hne : ((cntN d.length : Int) == 0) = false := by simp; omega
  clear hE hB hu hk hT hT4 hl q0 q1
  generalize hCt : cntN d.length = C at *
  clear hCt
  generalize S (joinL (blkL k n d) k (n + 1)) = J2 at *
  generalize blkL k n d = L at *
  generalize S d = D at *
  go_enter Tryd.func5, Tryd.ntmps5
  go_wp2_with fail
  refine (HK.out _).mono ?_
  rintro r w1 ⟨rfl, rfl⟩
  go_wp2_with fail
  refine (HSp.out _ HX0.out).mono ?_
  rintro r w2 ⟨a, c, rfl, hx⟩
  have HX : Hid _ := hx
  clear hx HSp HX0
  go_wp2_with fail
  refine (HCn.out _).mono ?_
  rintro r w3 ⟨rfl, rfl⟩
  go_wp2
  go_loopw [11] (fun iv wr => ∃ m : Nat, m ≤ C ∧ iv = .int .i64 m ∧ Ts w1 [(.slice a C c, L)] wr) (fun iv _ => C - (intOf iv).toNat)
  case atStart => exact ⟨0, Nat.zero_le _, rfl, HX.out⟩
  case round =>
    obtain ⟨m, hm, rfl, hT⟩ := hrel
    by_cases hlt : m < C
    · obtain ⟨b1, o1, rfl, c1⟩ := hT.head.cell m _ (HGet.out m hlt)
      have hlt2 : (m : Int) < (C : Int) := by omega
      have HD2 : Hid (Calls Tryd.prog 19 #[.string (S (encL (frP k n d m)))] wr fun e w' => e = .returned (.tuple #[.agg #[.int .u8 k, .int .i64 n, .int .i64 m, .string (S (cut d (112 * m) 112))], .int .i64 0]) ∧ Below wr.heap.size wr w') := HDc.out m wr hlt hT.tab hT.tab4
      have hz : ¬ (112 : Int) < ((S (cut d (112 * m) 112)).size : Int) := by have := HLn.out m; omega
      have HT : Hid _ := hT
      clear hT
      generalize S (cut d (112 * m) 112) = A at *
      generalize S (encL (frP k n d m)) = X at *
      go_wp2_with fail
      refine HD2.out.mono ?_
      rintro e' w4 ⟨rfl, b4⟩
      have HT4 : Hid _ := HT.out.next b4
      clear b4 HD2 c1
      have HY := TS.start2 (k := k) (e := n) (i := m) (D := A) (t := 39) HT4.out.tab HT4.out.tab4 HT4.out.below
      have HT5 : Hid _ := HT4.out.alloc (.cells #[.int .u8 k, .int .i64 n, .int .i64 m, .string A] 39)
      go_upto_region 11 with fail
      generalize w4.heap.size = B2 at *
      generalize w4.alloc _ = W2 at *
      have c0 := HY.c0
      have c1 := HY.c1
      have c2 := HY.c2
      have c3 := HY.c3
      clear HY
      go_wp2
      go_roundw
      case rel => exact ⟨m + 1, by omega, by go_num, HT5.out⟩
      case measure => simp [intOf]; omega
    · obtain rfl : m = C := by omega
      have hlt2 : ¬ (m : Int) < (m : Int) := by omega
      have HT : Hid _ := hT
      clear hT
      go_wp2_with fail
      refine (HJ1.out _ _ HT.out).mono ?_
      rintro e' w4 ⟨rfl, ht⟩
      have HT4 : Hid _ := ht
      clear ht
      go_wp2_with fail
      refine (HJ2.out _ _ HT4.out).mono ?_
      rintro e' w5 ⟨rfl, ht⟩
      have HT5 : Hid _ := ht
      clear ht
      go_wp2_with fail
      refine (HDo.out _ HT5.out.tab HT5.out.tab4).mono ?_
      rintro e' w6 ⟨rfl, hb⟩
      have HF : Hid _ := (HT5.out.next hb).below
      clear hb
      go_wp2
      go_ret
      exact ⟨rfl, HF.out⟩
end Go.Proofs.YtalofhnjlmgloaaDoor
