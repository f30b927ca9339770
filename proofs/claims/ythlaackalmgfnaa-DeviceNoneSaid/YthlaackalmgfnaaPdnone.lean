/- The law DeviceNone, walked. -/
import Derived.Test.YthlaackalmgfnaaEe
import Derived.Test.YthlaackalmgfnaaEc
namespace Go.Proofs.Ythlaackalmgfnaa
open Go.RowKit

/-- In the midst of it: the box of what is asked. -/
structure NonS (w : World) (i n : Int) (s : List UInt8) (ka : Option Addr) (kl kc : Nat) (v : Value) (wr : World) : Prop where
  below : Below w.heap.size w wr
  non : Non wr v
  box : ∃ q : Nat, q < 256 ∧ wr.heap[w.heap.size]? = some (.cells (doV q i n s (.slice ka kl kc)) 37 (0, 0))
theorem NonS.next {w : World} {i n : Int} {s : List UInt8} {ka : Option Addr} {kl kc : Nat} {v : Value} {wr wx : World} (h : NonS w i n s ka kl kc v wr) (hb : Below wr.heap.size wr wx) : NonS w i n s ka kl kc v wx := by
  obtain ⟨q, hq, hg⟩ := h.box
  exact ⟨h.below.trans (hb.mono h.below.size), h.non.below hb, q, hq, by rw [hb.block _ (Array.getElem?_eq_some_iff.1 hg).1]; exact hg⟩
theorem doV_set (q q' : Nat) (i n : Int) (s : List UInt8) (k : Value) : (doV q i n s k).setIfInBounds 0 (.int .u8 (q' : Int)) = doV q' i n s k := rfl
theorem zero_dev : (Try.prog.info? 62).map (fun i => (i.zero, i.size)) = some (some (.agg #[.slice none 0 0, .slice none 0 0, .slice none 0 0, .bool false, .int .i64 0, .pointer none]), 6) := by kernel_rfl
set_option maxRecDepth 100000 in
set_option maxHeartbeats 1600000 in
theorem none_any (q : Nat) (hq : q < 256) (i n : Int) (s : List UInt8) (k : List Int) (ka : Option Addr) (kc : Nat) (w : World) (hi : i < 9223372036854775808) (hn : n < 9223372036854775808) (hk : IntsAt w (.slice ka k.length kc) k) :
    Calls Try.prog 4 #[.agg (doV q i n s (.slice ka k.length kc))] w fun e w' => e = .returned (.bool true) ∧ Below w.heap.size w w' := by
  obtain ⟨C, hC⟩ : ∃ C, doV q i n s (.slice ka k.length kc) = C := ⟨_, rfl⟩
  have hCs : C.size = 5 := by rw [← hC]; rfl
  have hCn : ¬ C = #[] := fun h => by rw [h] at hCs; cases hCs
  obtain ⟨W1, hW1⟩ : ∃ W1, (w.alloc (.cells C 37)).alloc (.cells C 37) = W1 := ⟨_, rfl⟩
  have hB1 : Below w.heap.size w W1 := by rw [← hW1]; exact ((Below.refl _ _).alloc (Nat.le_refl _) _).alloc (by simp) _
  have hG1 : W1.heap[w.heap.size]? = some (.cells C 37 (0, 0)) := by
    rw [← hW1, Below.heap_alloc _ _ _ (by simp)]; exact heap_alloc_last _ _
  have hG2 : W1.heap[w.heap.size + 1]? = some (.cells C 37 (0, 0)) := by
    rw [← hW1]
    have := heap_alloc_last (w.alloc (.cells C 37)) (.cells C 37)
    simpa using this
  have HMu : Hid (Calls Try.prog 9 #[.slice (some ⟨w.heap.size + 1, 0, none⟩) 1 1, .int .i64 1] W1 fun e w' => e = .returned (.bool (muchD [⟨q, i, n, s, k, ka, kc⟩] 1)) ∧ w' = W1) := by
    refine much_any (a := some ⟨w.heap.size + 1, 0, none⟩) (xs := [⟨q, i, n, s, k, ka, kc⟩]) (fun j x hj => ?_) 1 1 (by omega)
    have hj0 : j = 0 := by have := (List.getElem?_eq_some_iff.1 hj).1; simpa using this
    subst hj0
    obtain rfl : (⟨q, i, n, s, k, ka, kc⟩ : DoX) = x := by simpa using hj
    refine ⟨⟨hq, hi, hn, ?_⟩, w.heap.size + 1, 0, rfl, ?_⟩
    · have h0 : DoX.ok w ⟨q, i, n, s, k, ka, kc⟩ := ⟨hq, hi, hn, hk⟩
      exact (h0.below hB1).k
    · have := range_row hG2
      rw [← hC] at this
      exact this
  have HNS : Hid (NonS w i n s ka k.length kc (.pointer none) W1) := ⟨hB1, .inl rfl, q, hq, by rw [hC]; exact hG1⟩
  have HG0 : Hid ((w.alloc (.cells C 37)).heap[w.heap.size]? = some (.cells C 37 (0, 0))) := heap_alloc_last _ _
  have HIC : Hid ((Try.prog.info? 37).map (·.size) = some C.size) := by show _ = _; rw [hCs]; kernel_rfl
  have HFo : Hid (Array.foldl (fun (cs : Array Value) (x : Value × Nat) => cs.setIfInBounds x.snd x.fst) #[Value.int .u8 0, .int .i64 0, .int .i64 0, .string ⟨#[]⟩, .slice none 0 0] C.zipIdx 0 5 = C) := by show _ = _; rw [← hC]; kernel_rfl
  have HW1 : Hid _ := hW1
  rw [hC]
  clear hG1 hG2 hB1 hk hi hn hC hW1
  go_enter Try.func4, Try.ntmps4
  go_wp2_with (refine wpList_load_row rfl 37 _ rfl w.heap.size rfl _ C (0, 0) _ HG0.out Try.underlying37 rfl HIC.out ?_)
  rw [HFo.out, HW1.out]
  refine HMu.out.mono ?_
  rintro e w' ⟨rfl, rfl⟩
  clear HMu HG0 HFo HW1
  cases hmu : muchD [⟨q, i, n, s, k, ka, kc⟩] 1 with
  | true =>
    have HB : Hid (Below w.heap.size w w') := HNS.out.below
    clear HNS hmu
    go_wp2
    go_ret
    exact ⟨rfl, HB.out⟩
  | false =>
    clear hmu
    generalize k.length = kl at *
    go_wp2
    go_loopw [3, 4] (fun v t wr => ∃ m : Nat, m ≤ 2 ∧ t = .int .i64 m ∧ NonS w i n s ka kl kc v wr) (fun _ t _ => 2 - (intOf t).toNat)
    case atStart => exact ⟨0, by omega, rfl, HNS.out⟩
    case round =>
      obtain ⟨m, hm, rfl, hS⟩ := hrel
      clear HNS
      by_cases hlt : m < 2
      · have HS : Hid _ := hS
        have hlt2 : (m : Int) < 2 := by omega
        clear hS
        go_wp2
        go_loopw [5] (fun kk wx => ∃ j : Nat, j ≤ 13 ∧ kk = .int .u8 j ∧ NonS w i n s ka kl kc u3 wx) (fun kk _ => 13 - (intOf kk).toNat)
        case atStart => exact ⟨0, by omega, rfl, HS.out⟩
        case round =>
          obtain ⟨j, hj, rfl, hS2⟩ := hrel
          clear HS
          by_cases hlj : j < 13
          · obtain ⟨qq, hqq, hg⟩ := hS2.box
            have c0 : wr.cell? ⟨w.heap.size, 0, none⟩ = some (.int .u8 (qq : Int)) := by rw [cell_of_row _ _ _ _ _ _ hg]; rfl
            have f0 : wr.frozen? ⟨w.heap.size, 0, none⟩ = false := frozen_of_row _ _ _ _ _ hg
            have HGj : Hid ((wr.setCell ⟨w.heap.size, 0, none⟩ (.int .u8 (j : Int))).heap[w.heap.size]? = some (.cells (doV j i n s (.slice ka kl kc)) 37 (0, 0))) := by show _ = _; rw [heap_set_same hg, doV_set]
            have HSj : Hid (NonS w i n s ka kl kc u3 (wr.setCell ⟨w.heap.size, 0, none⟩ (.int .u8 (j : Int)))) := by
              refine ⟨hS2.below.setCell (Nat.le_refl _) _, ?_, j, by omega, HGj.out⟩
              rcases hS2.non with h | ⟨pp, h1, h2⟩
              · exact .inl h
              · refine .inr ⟨pp, h1, ?_⟩
                have hne : pp ≠ w.heap.size := fun e => by rw [e, c0] at h2; cases h2
                rw [World.cell?_of_block (w := wr) (Below.heap_setCell _ _ _ _ hne)]; exact h2
            have HWi : Hid (Calls Try.prog 12 #[u3, .agg (doV j i n s (.slice ka kl kc))] (wr.setCell ⟨w.heap.size, 0, none⟩ (.int .u8 (j : Int))) (Tells fun r w' => r = 1 ∧ Below (wr.setCell ⟨w.heap.size, 0, none⟩ (.int .u8 (j : Int))).heap.size (wr.setCell ⟨w.heap.size, 0, none⟩ (.int .u8 (j : Int))) w')) := with_non HSj.out.non j (by omega) i n s ka kl kc
            have HID : Hid ((Try.prog.info? 37).map (·.size) = some (doV j i n s (.slice ka kl kc)).size) := by show _ = _; kernel_rfl
            have hlj2 : (j : Int) < 13 := by omega
            clear hS2 hg
            generalize doV j i n s (.slice ka kl kc) = D at *
            go_wp2_with (refine wpList_load_row rfl 37 _ rfl w.heap.size rfl _ D (0, 0) _ HGj.out Try.underlying37 rfl HID.out ?_)
            refine Calls.mono HWi.out ?_
            rintro e w3 ⟨r, rfl, rfl, hb⟩
            have HS3 : Hid (NonS w i n s ka kl kc u3 w3) := HSj.out.next hb
            clear hb HWi HSj HGj c0 f0
            go_wp2
            go_roundw
            case rel => exact ⟨j + 1, by omega, by go_num, HS3.out⟩
            case measure => simp [intOf]; omega
          · obtain rfl : j = 13 := by omega
            have HS3 : Hid _ := hS2
            obtain ⟨qq, hqq, hg⟩ := hS2.box
            have c1 : wr.cell? ⟨w.heap.size, 1, none⟩ = some (.int .i64 i) := by rw [cell_of_row _ _ _ _ _ _ hg]; rfl
            have k1 : Hid _ := read_non hS2.non i
            have k2 : Hid _ := len_non hS2.non
            have k3 : Hid _ := state_non hS2.non i
            have k4 : Hid _ := states_non hS2.non
            have k5 : Hid _ := pending_non hS2.non
            have k6 : Hid _ := up_non hS2.non
            have k7 : Hid _ := starts_non hS2.non
            have k8 : Hid _ := clone_non hS2.non
            clear hS2 hg hlj
            go_wp2_with fail
            refine Calls.mono k1.out ?_
            rintro e w4 ⟨rfl, rfl⟩
            go_wp2_with fail
            refine Calls.mono k2.out ?_
            rintro e w5 ⟨rfl, rfl⟩
            go_wp2_with fail
            refine Calls.mono k3.out ?_
            rintro e w6 ⟨rfl, rfl⟩
            go_wp2_with fail
            refine Calls.mono k4.out ?_
            rintro e w7 ⟨rfl, rfl⟩
            go_wp2_with fail
            refine Calls.mono k5.out ?_
            rintro e w8 ⟨rfl, rfl⟩
            go_wp2_with fail
            refine Calls.mono k6.out ?_
            rintro e w9 ⟨rfl, rfl⟩
            go_wp2_with fail
            refine Calls.mono k7.out ?_
            rintro e w10 ⟨rfl, rfl⟩
            go_wp2_with fail
            refine Calls.mono k8.out ?_
            rintro e w11 ⟨rfl, rfl⟩
            clear k1 k2 k3 k4 k5 k6 k7 k8 c1
            have HS4 : Hid (NonS w i n s ka kl kc (.pointer (some ⟨w11.heap.size, 0, none⟩)) (w11.alloc (.cells #[.slice none 0 0, .slice none 0 0, .slice none 0 0, .bool false, .int .i64 0, .pointer none] 62))) := by
              have h := HS3.out.next ((Below.refl _ _).alloc (Nat.le_refl _) (.cells #[.slice none 0 0, .slice none 0 0, .slice none 0 0, .bool false, .int .i64 0, .pointer none] 62))
              exact ⟨h.below, .inr ⟨_, rfl, by rw [cell_of_row _ _ _ _ _ _ (heap_alloc_last w11 _)]; rfl⟩, h.box⟩
            clear HS3
            go_wp2
            go_roundw
            case rel => exact ⟨m + 1, by omega, by go_num, HS4.out⟩
            case measure => simp [intOf]; omega
      · have hlt2 : ¬ (m : Int) < 2 := by omega
        have HDo : Hid (Calls Try.prog 16 #[] wr fun e w' => e = .returned (.bool true) ∧ Below w.heap.size w w') := (does_any wr).mono fun _ _ hh => ⟨hh.1, hS.below.trans (hh.2.mono hS.below.size)⟩
        clear hS
        go_wp2_with fail
        refine HDo.out.mono ?_
        rintro e w2 ⟨rfl, hb⟩
        have HB : Hid _ := hb
        clear hb HDo
        go_wp2
        go_ret
        exact ⟨rfl, HB.out⟩
end Go.Proofs.Ythlaackalmgfnaa
