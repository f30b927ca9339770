/- The document's own Count and Split (layer 6). -/
import Derived.Test.YtalofhnjlmgloaaDoorNb
import Derived.Test.YtalofhnjlmgloaaDoorJb
import Derived.Deep.DeepCutAuto
import Derived.BigQuiet
import Derived.Deep.QuietTactic
namespace Go.Proofs.YtalofhnjlmgloaaDoor
open Go.RowKit

theorem rcount_any (n : Int) (w : World) (h0 : -9223372036854775808 ≤ n) (h1 : n < 9223372036854775808) :
    Calls Tryd.prog 13 #[.int .i64 n] w fun e w' => e = .returned (.int .i64 (cntI n)) ∧ w' = w := by
  by_cases hn : n < 0
  · have he : cntI n = 0 := by unfold cntI; rw [if_pos hn]
    rw [he]
    clear he
    go_enter Tryd.func13, Tryd.ntmps13
    go_wp2
    go_ret
    exact ⟨rfl, rfl⟩
  by_cases hz : n = 0
  · subst hz
    go_enter Tryd.func13, Tryd.ntmps13
    go_wp2
    go_ret
    exact ⟨rfl, rfl⟩
  have hz2 : (n == 0) = false := by simpa using hz
  have g0 : 0 ≤ n := by omega
  have g1 : 0 ≤ n / 112 := by omega
  have g2 : n / 112 ≤ 82351536043346213 := by omega
  by_cases hr : 0 < n % 112
  · have he : Hid (cntI n = n / 112 + 1) := by
      show _ = _
      unfold cntI cntN
      rw [if_neg hn, if_neg (by omega)]
      omega
    clear hz hn
    go_enter Tryd.func13, Tryd.ntmps13
    go_wp2
    go_ret
    exact ⟨by rw [he.out]; rfl, rfl⟩
  · have he : Hid (cntI n = n / 112) := by
      show _ = _
      unfold cntI cntN
      rw [if_neg hn, if_neg (by omega)]
      omega
    clear hz hn
    go_enter Tryd.func13, Tryd.ntmps13
    go_wp2
    go_ret
    exact ⟨by rw [he.out]; rfl, rfl⟩
theorem part_cut (d : List UInt8) (m : Nat) : (S d).extract (m * 112) (min ((m : Int) * 112 + 112) (d.length : Int)).toNat = S (cut d (112 * m) 112) := by
  rw [S_ext, Nat.mul_comm m 112]
  congr 1
  unfold cut
  by_cases h : 112 * m + 112 ≤ d.length
  · rw [show (min ((m : Int) * 112 + 112) (d.length : Int)).toNat - 112 * m = 112 by omega]
  · rw [List.take_of_length_le (by simp; omega), List.take_of_length_le (by simp; omega)]
set_option maxRecDepth 100000 in
set_option maxHeartbeats 2000000 in
theorem rsplit_any (k e : Int) (d : List UInt8) (w : World) (hT : Tab w) (hT4 : Tab4 w) (hd : d.length ≤ 140737488351232) :
    Calls Tryd.prog 10 #[.int .u8 k, .int .i64 e, .string (S d)] w fun r w' => ∃ v, r = .returned (.tuple #[v, .int .i64 (splitE k e d)]) ∧ w'.ownsRow w.heap.size 9 1 v (splitL k e d).length (sv (splitL k e d)) ∧ Below w.heap.size w w' := by
  have hsz : ((S d).size : Int) = (d.length : Int) := by rw [S_size]
  have hCn : Hid (∀ w : World, Calls Tryd.prog 13 #[.int .i64 d.length] w fun e w' => e = .returned (.int .i64 (cntN d.length)) ∧ w' = w) := fun w => by
    have := rcount_any d.length w (by omega) (by omega)
    rwa [show cntI (d.length : Int) = (cntN d.length : Int) by unfold cntI; rw [if_neg (by omega), Int.toNat_natCast]] at this
  by_cases hc : 65536 < cntN d.length
  · have he : splitE k e d = 3 := by unfold splitE; rw [if_pos hc]
    have hl : splitL k e d = [] := splitL_no (by rw [he]; decide)
    rw [he, hl]
    have hc2 : (65536 : Int) < (cntN d.length : Int) := by omega
    clear he hl hc
    generalize S d = D at *
    go_enter Tryd.func10, Tryd.ntmps10
    go_wp2_with fail
    refine (hCn.out _).mono ?_
    rintro r w1 ⟨rfl, rfl⟩
    go_wp2
    go_ret2
    exact ⟨_, rfl, World.ownsRow_nil _ _ _ _, Below.refl _ _⟩
  · have hc2 : ¬ (65536 : Int) < (cntN d.length : Int) := by omega
    obtain ⟨ia, i1, i2, i3, i4⟩ := info_string
    have HIA : Hid (Tryd.prog.info? 9 = some ia ∧ ia.zero = some (.string ⟨#[]⟩) ∧ ia.size = 1 ∧ ia.bytes = 16) := ⟨i1, i2, i3, i4⟩
    clear i1 i2 i3 i4
    have HB : Hid (Base w.heap.size w) := Base.of hT hT4
    have HEn : Hid (∀ (i : Nat) (w1 : World), Below w.heap.size w w1 → Calls Tryd.prog 22 #[.agg #[.int .u8 k, .int .i64 e, .int .i64 i, .string (S (cut d (112 * i) 112))]] w1 fun r w' => r = .returned (.tuple #[.string (S (encL (frP k e d i))), .int .i64 (encE (frP k e d i))]) ∧ Below w1.heap.size w1 w') := fun i w1 hb => rencode_any (frP k e d i) w1 (HB.out.tabAt hb) (HB.out.tab4At hb)
    have hpos := cntN_pos d.length
    have HAt : Hid (∀ i, i < cntN d.length → 112 * i ≤ d.length) := fun i hi => cntN_at hi
    cases hu : underB k e with
    | false =>
      have he : splitE k e d = 2 := by unfold splitE; rw [if_neg hc, if_neg (by rw [hu]; decide)]
      have hl : splitL k e d = [] := splitL_no (by rw [he]; decide)
      rw [he, hl]
      have HEn2 : Hid (Calls Tryd.prog 22 #[.agg #[.int .u8 k, .int .i64 e, .int .i64 0, .string (S (cut d 0 112))]] w fun r w' => r = .returned (.tuple #[.string (S (encL (frP k e d 0))), .int .i64 2]) ∧ Below w.heap.size w w') := by
        have := HEn.out 0 w (Below.refl _ _)
        rwa [frP_no hu] at this
      have HPc : Hid ((S d).extract 0 (min 112 (d.length : Int)).toNat = S (cut d 0 112)) := by
        show _ = _
        have := part_cut d 0
        simpa using this
      have hlt2 : (0 : Int) < (cntN d.length : Int) := by omega
      clear he hl hc hu HEn HAt
      generalize S (encL (frP k e d 0)) = A at *
      go_enter Tryd.func10, Tryd.ntmps10
      go_wp2_with fail
      refine (hCn.out _).mono ?_
      rintro r w1 ⟨rfl, rfl⟩
      go_wp2
      go_loopw [9, 10] (fun v iv wr => iv = .int .i64 0 ∧ wr = w1) (fun _ iv _ => 0)
      case atStart => exact ⟨rfl, rfl⟩
      case round =>
        obtain ⟨rfl, rfl⟩ := hrel
        go_wp2_with fail
        rw [HPc.out]
        refine HEn2.out.mono ?_
        rintro r w2 ⟨rfl, b2⟩
        have HB2 : Hid _ := b2
        clear b2
        go_wp2
        go_ret2
        exact ⟨_, rfl, World.ownsRow_nil _ _ _ _, HB2.out⟩
    | true =>
      have he : splitE k e d = 0 := splitE_ok.2 ⟨by omega, hu⟩
      have hl : splitL k e d = blkL k e d := splitL_ok he
      rw [he, hl]
      have HEn2 : Hid (∀ (i : Nat) (w1 : World), i < cntN d.length → Below w.heap.size w w1 → Calls Tryd.prog 22 #[.agg #[.int .u8 k, .int .i64 e, .int .i64 i, .string (S (cut d (112 * i) 112))]] w1 fun r w' => r = .returned (.tuple #[.string (S (encL (frP k e d i))), .int .i64 0]) ∧ Below w1.heap.size w1 w') := fun i w1 hi hb => by
        have := HEn.out i w1 hb
        rwa [frP_ok hu (by omega)] at this
      have HGet : Hid (∀ i, i < cntN d.length → (blkL k e d)[i]? = some (encL (frP k e d i))) := fun i hi => blkL_get hi
      have HLen : Hid ((blkL k e d).length = cntN d.length) := blkL_length _ _ _
      clear he hl hc hu HEn
      generalize hC : cntN d.length = C at *
      clear hC
      go_enter Tryd.func10, Tryd.ntmps10
      go_wp2_with fail
      refine (hCn.out _).mono ?_
      rintro r w1 ⟨rfl, rfl⟩
      go_wp2
      go_loopw [9, 10] (fun v iv wr => ∃ m : Nat, m ≤ C ∧ iv = .int .i64 m ∧ wr.ownsRow w1.heap.size 9 1 v m (sv ((blkL k e d).take m)) ∧ Below w1.heap.size w1 wr) (fun _ iv _ => C - (intOf iv).toNat)
      case atStart => exact ⟨0, Nat.zero_le _, rfl, World.ownsRow_nil _ _ _ _, Below.refl _ _⟩
      case round =>
        obtain ⟨m, hm, rfl, hO, hB⟩ := hrel
        by_cases hlt : m < C
        · have hlt2 : (m : Int) < (C : Int) := by omega
          have hat := HAt.out m hlt
          have HE : Hid (Calls Tryd.prog 22 #[.agg #[.int .u8 k, .int .i64 e, .int .i64 m, .string (S (cut d (112 * m) 112))]] wr fun r w' => r = .returned (.tuple #[.string (S (encL (frP k e d m))), .int .i64 0]) ∧ Below wr.heap.size wr w') := HEn2.out m wr hlt hB
          have HO : Hid _ := hO
          have HBw : Hid _ := hB
          clear hO hB
          have HPc : Hid ((S d).extract (m * 112) (min ((m : Int) * 112 + 112) (d.length : Int)).toNat = S (cut d (112 * m) 112)) := part_cut d m
          have HTk : Hid (sv ((blkL k e d).take m) ++ [.string (S (encL (frP k e d m)))] = sv ((blkL k e d).take (m + 1))) := by
            show _ = _
            rw [List.take_add_one, HGet.out m hlt]
            simp [sv]
          generalize blkL k e d = L at *
          generalize S (encL (frP k e d m)) = A at *
          go_wp2_with fail
          rw [HPc.out]
          refine HE.out.mono ?_
          rintro r w2 ⟨rfl, b2⟩
          have HO2 : Hid ((w2.alloc (.cells #[.string A] 9)).ownsRow w1.heap.size 9 1 u9 m (sv (L.take m))) := (owns_below HO.out b2).alloc _
          have HB2 : Hid (Below w1.heap.size w1 w2) := HBw.out.trans (b2.mono HBw.out.size)
          have HK : Hid (∀ k, u9.ownBlock = some k → w1.heap.size ≤ k) := fun k hk => (World.ownsRow.lt HO.out k hk).1
          have HSz : Hid (w1.heap.size ≤ w2.heap.size) := HB2.out.size
          clear b2 HE HO HBw hat
          go_wp2_with (refine wpList_append_own _ rfl _ _ 23 rfl w1.heap.size 9 ia (.string ⟨#[]⟩) 1 16 Tryd.underlying23 HIA.out.1 HIA.out.2.1 HIA.out.2.2.1 HIA.out.2.2.2 rfl (by omega) u9 m (sv (L.take m)) rfl HO2.out ⟨w2.heap.size, 0, none⟩ 1 1 [.string A] rfl rfl one_news one_cells (by simp only [maxLen]; omega) (by omega) (by have := HSz.out; simp; omega) ?_; intro v' w3 r1 r2 r3; obtain ⟨xa, xc, rfl⟩ := owns_slice r1; have HR : Hid (w3.ownsRow w1.heap.size 9 1 (.slice xa (m + 1) xc) (m + 1) (sv (L.take (m + 1))) ∧ Below w1.heap.size w1 w3) := ⟨by rw [← HTk.out]; exact r1, (HB2.out.alloc HSz.out _).grown r2 (by have := HSz.out; simp; omega) HK.out⟩; clear r1 r2 r3)
          go_roundw
          case rel => exact ⟨m + 1, by omega, by go_num, HR.out⟩
          case measure => simp [intOf]; omega
        · obtain rfl : m = C := by omega
          rw [List.take_of_length_le (by rw [HLen.out]; omega)] at hO
          have HF : Hid (wr.ownsRow w1.heap.size 9 1 u9 (blkL k e d).length (sv (blkL k e d)) ∧ Below w1.heap.size w1 wr) := ⟨by rw [HLen.out]; exact hO, hB⟩
          have hlt2 : ¬ ((m : Nat) : Int) < (m : Int) := by omega
          clear hO hB
          go_wp2
          go_ret2
          exact ⟨_, rfl, HF.out⟩
end Go.Proofs.YtalofhnjlmgloaaDoor
