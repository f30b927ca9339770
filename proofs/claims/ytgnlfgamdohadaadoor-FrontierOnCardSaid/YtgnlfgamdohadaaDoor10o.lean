/- The law FrontierOn (layer 10). -/
import Derived.Test.YtgnlfgamdohadaaDoor10k
namespace Go.Proofs.YtgnlfgamdohadaaDoor
open Go.RowKit

theorem add_wraps' (a b : Nat) (h : a + b ≤ 1000) : wrap64 ((a : Int) + (b : Int)) = ((a + b : Nat) : Int) ∧ IntKind.i64.wrap ((a : Int) + (b : Int)) = ((a + b : Nat) : Int) :=
  ⟨by unfold wrap64; omega, by rw [IntKind.wrap_i64]; omega⟩
theorem edH_on {L M : List (List UInt8)} {i : Nat} {x : List UInt8} (hx : M[i]? = some x) (hl : L.length ≤ 1000) (hm : M.length ≤ 1000) : edH (L ++ M.take (i + 1)) = puL nodeL (tlN (L.length + i)) (edH (L ++ M.take i)) x := by
  have hlt := (List.getElem?_eq_some_iff.1 hx).1
  have hti : (L ++ M.take i).length = L.length + i := by rw [List.length_append, List.length_take]; omega
  have := ed_more (shaL []) nodeL 63 (L ++ M.take i) x (by omega)
  rw [hti] at this
  rw [← this, List.take_add_one, hx, List.append_assoc]
  rfl
set_option maxRecDepth 100000 in
set_option maxHeartbeats 8000000 in
set_option linter.unusedSimpArgs false in
set_option linter.unusedVariables false in
theorem on_law {w : World} {v1 v2 : Value} {L M : List (List UInt8)} (hL : HsAt w v1 L) (hM : HsAt w v2 M) (hroom1 : ∀ a n c, v1 = .slice a n c → n ≤ c) (hroom2 : ∀ a n c, v2 = .slice a n c → n ≤ c) (hT : TabF w) : Calls Tryd.prog 6 #[v1, v2] w fun e w' => e = .returned (.bool true) ∧ Below w.heap.size w w' := by
  obtain ⟨a, c, rfl, -⟩ := id hL
  obtain ⟨a2, c2, rfl, -⟩ := id hM
  have hc := hroom1 _ _ _ rfl
  have hc2 := hroom2 _ _ _ rfl
  clear hroom1 hroom2
  by_cases hbig : L.length > 64
  · have h1 : (L.length : Int) > 64 := by omega
    clear hL hM
    go_enter Tryd.func6, Tryd.ntmps6
    go_wp2
    go_ret
    exact ⟨rfl, Below.refl _ _⟩
  by_cases hbig2 : M.length > 64
  · have h1 : (M.length : Int) > 64 := by omega
    have h2 : ¬ (L.length : Int) > 64 := by omega
    clear hL hM hbig
    go_enter Tryd.func6, Tryd.ntmps6
    go_wp2
    go_ret
    exact ⟨rfl, Below.refl _ _⟩
  have h1 : ¬ (L.length : Int) > 64 := by omega
  have h2 : ¬ (M.length : Int) > 64 := by omega
  obtain ⟨n, hn⟩ : ∃ n, L.length = n := ⟨_, rfl⟩
  obtain ⟨m, hm⟩ : ∃ m, M.length = m := ⟨_, rfl⟩
  have h32L := hL.len
  have h32M := hM.len
  have HLn : Hid (L.length = n ∧ M.length = m) := ⟨hn, hm⟩
  rw [hn] at hL h1 hc
  rw [hm] at hM h2 hc2
  rw [hn, hm]
  have hn64 : n ≤ 64 := by omega
  have hm64 : m ≤ 64 := by omega
  have HL : Hid (∀ W, Below w.heap.size w W → HsAt W (.slice a n c) L ∧ HsAt W (.slice a2 m c2) M ∧ TabF W) := fun W hW => ⟨hL.below hW, hM.below hW, hT.below hW hT.lt⟩
  have HOf : Hid (Calls Tryd.prog 22 #[.slice a n c] w fun e w' => ∃ b, e = .returned (.pointer (some ⟨b, 0, none⟩)) ∧ Fr w' w.heap.size b n (edH L) ∧ Below w.heap.size w w') := by
    have := fof_any hL hT (by omega)
    rwa [hn] at this
  have hgt := hT.lt
  have HAp : Hid (∀ (W : World) (B b i : Nat) (x : List UInt8), w.heap.size ≤ B → M[i]? = some x → Fr W B b (n + i) (edH (L ++ M.take i)) → Below w.heap.size w W → Calls Tryd.prog 10 #[.pointer (some ⟨b, 0, none⟩), .agg (hv x)] W fun e w' => e = .returned (.int .i64 0) ∧ Fr w' B b (n + (i + 1)) (edH (L ++ M.take (i + 1))) ∧ But b W w') := fun W B b i x hB hx hF hW => by
    have hlt := (List.getElem?_eq_some_iff.1 hx).1
    have := fappend_any x hF (HL.out W hW).2.2 ⟨⟨by omega, by omega⟩, by omega⟩ (h32M x (List.mem_of_getElem? hx)) (by omega)
    rw [← hn, ← edH_on hx (by omega) (by omega), hn] at this
    exact this
  have HD : Hid (∀ W, Below w.heap.size w W → Calls Tryd.prog 18 #[] W fun e w' => e = .returned (.bool true) ∧ Below W.heap.size W w') := fun W hW => does10_any W (HL.out W hW).2.2
  have hlm : (L ++ M).length = n + m := by rw [List.length_append, hn, hm]
  have h32 : ∀ x ∈ L ++ M, x.length = 32 := fun x hx => (List.mem_append.1 hx).elim (h32L x) (h32M x)
  have hr32 : (rootH (L ++ M)).length = 32 := rootH_32 h32
  have heq : ∀ (w9 : World), (binOp .eql 30 (.agg (hv (rootH (L ++ M)))) (.agg (hv (rootH (L ++ M))))).run Tryd.prog w9 = .ok (.bool true) w9 := fun w9 => by
    have := eqH w9 (rootH (L ++ M)) (rootH (L ++ M)) hr32 hr32
    rwa [beq_self_eq_true] at this
  have HFR : Hid (∀ (W : World) (B b : Nat), Fr W B b (n + m) (edH (L ++ M)) → Below w.heap.size w W → Calls Tryd.prog 14 #[.pointer (some ⟨b, 0, none⟩)] W fun e w' => e = .returned (.agg (hv (rootH (L ++ M)))) ∧ Below W.heap.size W w') := fun W B b hF hW => by
    have := froot_any hF (HL.out W hW).2.2.l
    rwa [edH_root (by omega)] at this
  have HRR : Hid (∀ W xa xc, Below w.heap.size w W → HsAt W (.slice xa (n + m) xc) (L ++ M) → n + m ≤ xc → Calls Tryd.prog 21 #[.slice xa (n + m) xc] W fun e w' => e = .returned (.agg (hv (rootH (L ++ M)))) ∧ Below W.heap.size W w') := fun W xa xc hW hA hx => root_any (HL.out W hW).2.2.l hA (fun a n c e => by have := Value.slice.inj e; omega) (by omega)
  have HSm : Hid (∀ (W : World) (x1 x2 : Value), HsAt W x1 (edH (L ++ M)) → HsAt W x2 (edH (L ++ M)) → Calls Tryd.prog 17 #[x1, x2] W fun e w' => e = .returned (.bool true) ∧ Below W.heap.size W w') := fun W x1 x2 e1 e2 => same_hs e1 e2 (by
    show (edT (shaL []) nodeL 63 (L ++ M)).length ≤ _
    have := ed_length (shaL []) nodeL 63 (L ++ M) (by omega)
    have := pc_le 63 (L ++ M).length (by omega)
    omega)
  have HGet : Hid (∀ i, i < m → ∃ x, M[i]? = some x ∧ x.length = 32) := fun i hi => ⟨_, List.getElem?_eq_getElem (by omega), h32M _ (List.getElem_mem _)⟩
  have HBw : Hid (Below w.heap.size w w) := Below.refl _ _
  have d1 : decide ((64 : Int) < (n : Int)) = false := by rw [decide_eq_false_iff_not]; omega
  have d2 : decide ((64 : Int) < (m : Int)) = false := by rw [decide_eq_false_iff_not]; omega
  clear hL hM hT hbig hbig2 h32L h32M hn hm hgt hlm h32 hr32
  go_enter Tryd.func6, Tryd.ntmps6
  go_wp2_with fail
  refine HOf.out.mono ?_
  rintro e w1 ⟨bf, rfl, hF, b1⟩
  have HF1 : Hid (Fr w1 w.heap.size bf n (edH L)) := hF
  have HB1 : Hid (Below w.heap.size w w1) := b1
  clear hF b1
  go_wp2_with (first | (go_at_call 12; refine (flen_any HF1.out).mono ?_; rintro e w1 ⟨rfl, rfl⟩) | fail)
  refine (fhashes_any HF1.out).mono ?_
  rintro e w2 ⟨ha, hc', rfl, hMh⟩
  have HF2 : Hid (Fr w2 w.heap.size bf n (edH L)) := HF1.out.next hMh.below
  have HB2 : Hid (Below w.heap.size w w2) := HB1.out.trans (hMh.below.mono HB1.out.size)
  have HLd : Hid (Calls Tryd.prog 8 #[.int .i64 n, .slice ha (edH L).length hc'] w2 fun e w' => ∃ b, e = .returned (.tuple #[.pointer (some ⟨b, 0, none⟩), .int .i64 0]) ∧ Fr w' w2.heap.size b n (edH L) ∧ Below w2.heap.size w2 w') := by
    obtain ⟨e1, e2, -⟩ := HF1.out.len
    exact fload_good n hMh.at_ (by omega) (by omega) e1.symm
  clear hMh HF1 HB1
  go_wp2_with fail
  refine HLd.out.mono ?_
  rintro e w3 ⟨bg, rfl, hG, b3⟩
  have HF3 : Hid (Fr w3 w.heap.size bf (n + 0) (edH (L ++ M.take 0)) ∧ Fr w3 w2.heap.size bg (n + 0) (edH (L ++ M.take 0)) ∧ Below w.heap.size w w3) := by
    have e0 : edH (L ++ M.take 0) = edH L := by rw [List.take_zero, List.append_nil]
    show _ ∧ _ ∧ _
    rw [e0]
    exact ⟨HF2.out.next b3, hG, HB2.out.trans (b3.mono HB2.out.size)⟩
  have hne : Hid (bf ≠ bg ∧ w.heap.size ≤ w2.heap.size) := by
    have e1 := HF2.out.lt
    have e2 := hG.ge
    exact ⟨by omega, HB2.out.size⟩
  clear hG b3 HLd HF2 HB2
  go_wp2
  go_loopw [8] (fun iv wr => ∃ i : Nat, i ≤ m ∧ iv = .int .i64 i ∧ Fr wr w.heap.size bf (n + i) (edH (L ++ M.take i)) ∧ Fr wr w2.heap.size bg (n + i) (edH (L ++ M.take i)) ∧ Below w.heap.size w wr) (fun iv _ => m - (intOf iv).toNat)
  case atStart => exact ⟨0, Nat.zero_le _, rfl, HF3.out.1, HF3.out.2.1, HF3.out.2.2⟩
  case round =>
    obtain ⟨i, hi, rfl, hF, hG, hB⟩ := hrel
    clear HF3
    by_cases hi2 : i < m
    · obtain ⟨x, hx, hx32⟩ := HGet.out i hi2
      obtain ⟨-, b1, o1, rfl, -⟩ := (HL.out wr hB).2.1.cells.2 i x hx
      have HR : Hid (∀ W, Below w.heap.size w W → W.rangeAt b1 (o1 + i * 32) (hv x).toList) := fun W hW => by
        obtain ⟨-, b', o', e, hr⟩ := (HL.out W hW).2.1.cells.2 i x hx
        simp at e
        obtain ⟨rfl, rfl⟩ := e
        exact hr W (Below.refl _ _)
      have HAx : Hid (∀ (W : World) (B b : Nat), w.heap.size ≤ B → Fr W B b (n + i) (edH (L ++ M.take i)) → Below w.heap.size w W → Calls Tryd.prog 10 #[.pointer (some ⟨b, 0, none⟩), .agg (hv x)] W fun e w' => e = .returned (.int .i64 0) ∧ Fr w' B b (n + (i + 1)) (edH (L ++ M.take (i + 1))) ∧ But b W w') := fun W B b hB => HAp.out W B b i x hB hx
      have hxs : (hv x).size = 32 := by rw [hv_size, hx32]
      have ic : Hid ((Tryd.prog.info? 30).map (·.size) = some (hv x).toList.length) := by show _ = _; rw [info_h32, Array.length_toList, hxs]
      have HX0 : Hid (Below w.heap.size w wr) := hB
      have HF0 : Hid (Fr wr w.heap.size bf (n + i) (edH (L ++ M.take i)) ∧ Fr wr w2.heap.size bg (n + i) (edH (L ++ M.take i))) := ⟨hF, hG⟩
      have hr := HR.out wr hB
      have k0 : (0 : Int) ≤ (i : Int) := by omega
      have k1 : (i : Int) < (m : Int) := by omega
      have hwi : wrap64 ((i : Int) + 1) = ((i + 1 : Nat) : Int) := (add_wraps' i 1 (by omega)).1
      clear hx hx32 hF hG hB
      generalize hv x = X at *
      go_wp2_with (first | (refine wpList_load_mid rfl 30 _ rfl b1 (o1 + i * 32) rfl X.toList _ hr Tryd.underlying30 rfl ic.out ?_) | fail)
      refine (HAx.out wr _ bf (Nat.le_refl _) HF0.out.1 HX0.out).mono ?_
      rintro e w4 ⟨rfl, hF4, b4⟩
      obtain ⟨C, hgC, hCs⟩ := HF0.out.1.box
      have HG4 : Hid (Fr w4 w2.heap.size bg (n + i) (edH (L ++ M.take i))) := HF0.out.2.but b4 (fun e => hne.out.1 e.symm) hgC hCs
      have HF4 : Hid (Fr w4 w.heap.size bf (n + (i + 1)) (edH (L ++ M.take (i + 1)))) := hF4
      have HX4 : Hid (Below w.heap.size w w4) := HX0.out.trans (b4.below HF0.out.1.ge HX0.out.size)
      have hr4 := HR.out w4 HX4.out
      clear hF4 b4 hgC hCs hr HF0 HX0
      go_wp2_with (first | (refine wpList_want (by rfl) fun _ hK => wp_load_mid 30 _ rfl b1 (o1 + i * 32) rfl X.toList _ hr4 Tryd.underlying30 rfl ic.out (hK _ _ ?_)) | fail)
      refine (HAx.out w4 _ bg hne.out.2 HG4.out HX4.out).mono ?_
      rintro e w5 ⟨rfl, hG5, b5⟩
      obtain ⟨C, hgC, hCs⟩ := HG4.out.box
      have HF5 : Hid (Fr w5 w.heap.size bf (n + (i + 1)) (edH (L ++ M.take (i + 1))) ∧ Fr w5 w2.heap.size bg (n + (i + 1)) (edH (L ++ M.take (i + 1))) ∧ Below w.heap.size w w5) := ⟨HF4.out.but b5 hne.out.1 hgC hCs, hG5, HX4.out.trans (b5.below (Nat.le_trans hne.out.2 HG4.out.ge) HX4.out.size)⟩
      clear hG5 b5 hgC hCs hr4 HF4 HX4 HG4
      go_wp2
      go_roundw
      case rel => exact ⟨i + 1, by omega, by first | rfl | go_num, HF5.out.1, HF5.out.2.1, HF5.out.2.2⟩
      case measure => simp [intOf]; omega
    · obtain rfl : i = m := by omega
      have e1 : M.take i = M := List.take_of_length_le (by rw [HLn.out.2]; omega)
      rw [e1] at hF hG
      have k1 : ¬ (i : Int) < (i : Int) := by omega
      have H5 : Hid (∀ W, Below wr.heap.size wr W → Fr W w.heap.size bf (n + i) (edH (L ++ M)) ∧ Fr W w2.heap.size bg (n + i) (edH (L ++ M)) ∧ Below w.heap.size w W) := fun W hW => ⟨hF.next hW, hG.next hW, hB.trans (hW.mono hB.size)⟩
      have HX0 : Hid (Below wr.heap.size wr wr) := Below.refl _ _
      clear hF hG hB e1 hi hi2 HAp HGet
      generalize hRR : hv (rootH (L ++ M)) = RR at *
      go_wp2_with fail
      refine (HFR.out wr _ bf (H5.out _ HX0.out).1 (H5.out _ HX0.out).2.2).mono ?_
      rintro e y1 ⟨rfl, bc⟩
      have HX1 : Hid (Below wr.heap.size wr y1) := HX0.out.trans (bc.mono HX0.out.size)
      clear bc HX0
      go_wp2_with fail
      refine (HFR.out y1 _ bg (H5.out _ HX1.out).2.1 (H5.out _ HX1.out).2.2).mono ?_
      rintro e y2 ⟨rfl, bc⟩
      have HX2 : Hid (Below wr.heap.size wr y2) := HX1.out.trans (bc.mono HX1.out.size)
      clear bc HX1
      go_wp2_with fail
      refine (flen_any (H5.out _ HX2.out).1).mono ?_
      rintro e y2 ⟨rfl, rfl⟩
      go_wp2_with fail
      refine (flen_any (H5.out _ HX2.out).2.1).mono ?_
      rintro e y2 ⟨rfl, rfl⟩
      go_wp2_with fail
      refine (fhashes_any (H5.out _ HX2.out).1).mono ?_
      rintro e y3 ⟨pa, pc, rfl, hM1⟩
      have HX3 : Hid (Below wr.heap.size wr y3) := HX2.out.trans (hM1.below.mono HX2.out.size)
      have HQ3 : Hid (HsAt y3 (.slice pa (edH (L ++ M)).length pc) (edH (L ++ M))) := hM1.at_
      clear hM1 HX2
      go_wp2_with fail
      refine (fhashes_any (H5.out _ HX3.out).2.1).mono ?_
      rintro e y4 ⟨qa, qc, rfl, hM2⟩
      have HX4 : Hid (Below wr.heap.size wr y4) := HX3.out.trans (hM2.below.mono HX3.out.size)
      have HSame : Hid (Calls Tryd.prog 17 #[.slice pa (edH (L ++ M)).length pc, .slice qa (edH (L ++ M)).length qc] y4 fun e w' => e = .returned (.bool true) ∧ Below y4.heap.size y4 w') := HSm.out y4 _ _ (HQ3.out.below hM2.below) hM2.at_
      clear hM2 HX3 HQ3
      go_wp2_with fail
      refine (HSame.out).mono ?_
      rintro e y5 ⟨rfl, bc⟩
      have HX5 : Hid (Below wr.heap.size wr y5) := HX4.out.trans (bc.mono HX4.out.size)
      clear bc HX4
      go_wp2_with fail
      refine (HFR.out y5 _ bf (H5.out _ HX5.out).1 (H5.out _ HX5.out).2.2).mono ?_
      rintro e y6 ⟨rfl, bc⟩
      have HX6 : Hid (Below wr.heap.size wr y6) := HX5.out.trans (bc.mono HX5.out.size)
      clear bc HX5
      have HM0 : Hid (Mh y6 y6.heap.size (.slice (some ⟨y6.heap.size, 0, none⟩) 0 0) [] (y6.alloc (.cells #[] 30))) := ⟨(Below.refl _ _).alloc (Nat.le_refl _) _, Nat.le_refl _, fun x hx => (by cases hx), World.ownsRow_made y6 #[] 0 (Nat.le_refl _) (by simp [maxLen]) (by simp)⟩
      have HW6 : Hid (Below w.heap.size w (y6.alloc (.cells #[] 30))) := (H5.out _ HX6.out).2.2.trans (((Below.refl y6.heap.size y6).alloc (Nat.le_refl _) _).mono (H5.out _ HX6.out).2.2.size)
      have hL1 := (HL.out _ HW6.out).1
      have hln : L.length = n := HLn.out.1
      have hlm : (L ++ M).length = n + i := by rw [List.length_append, HLn.out.1, HLn.out.2]
      have HLM : Hid ((L ++ M).length = n + i) := hlm
      have HLe : Hid (L.length = n) := hln
      clear hlm hln HW6
      have HBM : Hid (∀ y, Below y6.heap.size y6 y → HsAt y (.slice a2 i c2) M ∧ Below w.heap.size w y) := fun y hy =>
        have hB := (H5.out _ HX6.out).2.2.trans (hy.mono (H5.out _ HX6.out).2.2.size)
        ⟨(HL.out y hB).2.1, hB⟩
      go_wp2_with (first | (refine wpList_want (by rfl) fun _ hK => wp_append_mq (L := []) (M := L) (.tmp 73) (.tmp 74) rfl HM0.out _ rfl rfl hL1 L n rfl HLe.out (by omega) (fun xa xc y7 hxc hM7 _ => hK _ _ ?_); have HM7 : Hid (Mh y6 y6.heap.size (.slice xa n xc) L y7) := hM7; clear hM7) | (refine wpList_want (by rfl) fun _ hK => wp_append_mq (L := L) (M := M) (.tmp 75) (.tmp 76) rfl HM7.out _ rfl rfl (HBM.out _ HM7.out.below).1 (L ++ M) (n + i) rfl HLM.out (by omega) (fun xb xd y8 hxd hM8 _ => hK _ _ ?_); have HM8 : Hid (Mh y6 y6.heap.size (.slice xb (n + i) xd) (L ++ M) y8 ∧ n + i ≤ xd) := ⟨hM8, hxd⟩; clear hM8 hxd) | fail)
      refine (HRR.out y8 xb xd (HBM.out _ HM8.out.1.below).2 HM8.out.1.at_ HM8.out.2).mono ?_
      rintro e y9 ⟨rfl, bc⟩
      have HX9 : Hid (Below w.heap.size w y9) := (HBM.out _ HM8.out.1.below).2.trans (bc.mono (HBM.out _ HM8.out.1.below).2.size)
      clear bc HM8 HM7 HM0
      go_wp2_with fail
      refine (HD.out y9 HX9.out).mono ?_
      rintro e y10 ⟨rfl, bc⟩
      have HF : Hid (Below w.heap.size w y10) := HX9.out.trans (bc.mono HX9.out.size)
      clear bc HX9
      go_wp2
      go_ret
      exact ⟨rfl, HF.out⟩
end Go.Proofs.YtgnlfgamdohadaaDoor
