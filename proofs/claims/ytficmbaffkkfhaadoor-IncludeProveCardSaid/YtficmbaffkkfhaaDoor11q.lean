/- The law IncludeProve (layer 11). -/
import Derived.Test.YtficmbaffkkfhaaDoor11p
import Derived.Test.YtficmbaffkkfhaaDoor10d0
import Derived.Test.YtficmbaffkkfhaaDoorR9n0
import Derived.Test.YtficmbaffkkfhaaDoorR9v
namespace Go.Proofs.YtficmbaffkkfhaaDoor
open Go.RowKit

/-- What Prove tells, whatever the place. -/
def prR (L : List (List UInt8)) (i : Int) : List (List UInt8) := if 0 ≤ i ∧ i < (L.length : Int) then prH L i.toNat else []
def prE (L : List (List UInt8)) (i : Int) : Int := if 0 ≤ i ∧ i < (L.length : Int) then 0 else 2
theorem prR_short {L : List (List UInt8)} (i : Int) (hl : L.length ≤ 64) : (prR L i).length ≤ 64 := by
  rw [prR]
  split
  · exact Nat.le_trans (pr_short (d := 6) hl) (by decide)
  · exact Nat.zero_le _
theorem prove_both {w : World} {a : Option Addr} {c : Nat} {L : List (List UInt8)} (i : Int) (hK : TabL w) (hL : HsAt w (.slice a L.length c) L) (hc : L.length ≤ c) (hl : L.length ≤ 64) :
    Calls Tryd.prog 9 #[.slice a L.length c, .int .i64 i] w fun e w' => ∃ a c, e = .returned (.tuple #[.slice a (prR L i).length c, .int .i64 (prE L i)]) ∧ Mh w w.heap.size (.slice a (prR L i).length c) (prR L i) w' := by
  by_cases hi : 0 ≤ i ∧ i < (L.length : Int)
  · rw [prR, prE, if_pos hi, if_pos hi]
    obtain ⟨k, rfl⟩ := Int.eq_ofNat_of_zero_le hi.1
    rw [Int.toNat_natCast]
    exact prove_any k (by omega) hK hL hc (by omega)
  · rw [prR, prE, if_neg hi, if_neg hi]
    refine (prove_no i hi).mono ?_
    rintro e w' ⟨rfl, hb⟩
    exact ⟨none, 0, rfl, (Mh.start w).next hb⟩
theorem rprove_both {w : World} {a : Option Addr} {c : Nat} {L : List (List UInt8)} (i : Int) (hR : TabR w) (hL : HsAt w (.slice a L.length c) L) (hc : L.length ≤ c) (hl : L.length ≤ 64) :
    Calls Tryd.prog 10 #[.slice a L.length c, .int .i64 i] w fun e w' => ∃ a c, e = .returned (.tuple #[.slice a (prR L i).length c, .int .i64 (prE L i)]) ∧ Mh w w.heap.size (.slice a (prR L i).length c) (prR L i) w' := by
  by_cases hi : 0 ≤ i ∧ i < (L.length : Int)
  · rw [prR, prE, if_pos hi, if_pos hi]
    obtain ⟨k, rfl⟩ := Int.eq_ofNat_of_zero_le hi.1
    rw [Int.toNat_natCast]
    exact rprove_upto 64 L w a c k hl (by omega) (by omega) hR hL hc
  · rw [prR, prE, if_neg hi, if_neg hi]
    refine (rprove_no i hi).mono ?_
    rintro e w' ⟨rfl, rfl⟩
    exact ⟨none, 0, rfl, Mh.start _⟩
theorem seven_eq (w : World) : (binOp .eql 23 (.agg (hv h7L)) (.agg (hv h7L))).run Tryd.prog w = .ok (.bool true) w := by
  have := eqH w h7L h7L h7_len h7_len
  rwa [beq_self_eq_true] at this
theorem nine_len : (padTo 32 [9]).length = 32 := padTo_length (by decide)
set_option maxRecDepth 100000 in
set_option maxHeartbeats 8000000 in
set_option linter.unusedSimpArgs false in
set_option linter.unusedVariables false in
theorem iprove_walk {w : World} {v : Value} {L : List (List UInt8)} (i : Int) (hL : HsAt w v L) (hroom : ∀ a n c, v = .slice a n c → n ≤ c) (hK : TabL w) (hR : TabR w) : Calls Tryd.prog 3 #[v, .int .i64 i] w fun e w' => e = .returned (.bool true) ∧ Below w.heap.size w w' := by
  obtain ⟨a, c, rfl, -⟩ := id hL
  have hc := hroom _ _ _ rfl
  by_cases hbig : L.length > 64
  · have h1 : (L.length : Int) > 64 := by omega
    clear hL
    go_enter Tryd.func3, Tryd.ntmps3
    go_wp2
    go_ret
    exact ⟨rfl, Below.refl _ _⟩
  obtain ⟨m, hm⟩ : ∃ m, L.length = m := ⟨_, rfl⟩
  have h1 : ¬ (m : Int) > 64 := by omega
  have hm64 : m ≤ 64 := by omega
  have HS : Hid (∀ W, Below w.heap.size w W → HsAt W (.slice a m c) L ∧ TabL W ∧ TabR W) := fun W hb => ⟨by rw [← hm]; exact hL.below hb, hK.below hb hK.lt, hR.below hb hR.lt⟩
  have HL : Hid (L.length = m ∧ m ≤ c ∧ m ≤ 64) := ⟨hm, by omega, hm64⟩
  have hw1 : Hid (wrap64 ((m : Int) + 1) = (m : Int) + 1) := by show _ = _; unfold wrap64; omega
  have hbld := build_hash (hv h7L) (by rw [hv_size, h7_len])
  have hC7 : (hv h7L).size = 32 := by rw [hv_size, h7_len]
  rw [zero_h32] at hbld
  rw [hm]
  clear hL hK hR hroom hbig hc hm
  go_enter Tryd.func3, Tryd.ntmps3
  go_wp2_with (first
    | (refine wpList_make_mh rfl _ _ rfl ((m : Int) + 1) (m + 1) rfl rfl (by omega) (by omega) ?_
       intro w1 hN1
       have hS1 := (HS.out w1 hN1.below).1
       skip)
    | (refine wpList_append_mq rfl (.tmp 17) (.tmp 18) rfl hN1 _ rfl rfl hS1 L m rfl HL.out.1 (by omega) ?_
       intro g2 xc w2 hxc hN2 _
       have hN3 := hN2.alloc (.cells (hv h7L) 23)
       have hS7 := HsAt.made w2 h7L h7_len
       clear hN1 hS1)
    | (refine wpList_append_mh (L := L) (M := [h7L]) rfl (.tmp 19) (.tmp 21) rfl hN3 ⟨w2.heap.size, 0, none⟩ 1 rfl rfl hS7 (L ++ [h7L]) (m + 1) rfl (by rw [List.length_append, HL.out.1]; rfl) (by omega) ?_
       intro g cap w3 hcap hN4
       have HN : Hid (Mh w w.heap.size (.slice g (m + 1) cap) (L ++ [h7L]) w3) := hN4
       clear hN2 hN3 hS7)
    | (simp only [hw1.out])
    | fail)
  obtain ⟨-, b, o, rfl, -⟩ := HN.out.at_.cells.2 m h7L (by rw [List.getElem?_append_right (by rw [HL.out.1]; exact Nat.le_refl _), HL.out.1, Nat.sub_self]; rfl)
  have hcap : m + 1 ≤ cap := by
    obtain ⟨a', c', hsl, hc⟩ := HN.out.slice
    obtain ⟨-, -, rfl⟩ := Value.slice.inj hsl
    rwa [List.length_append, HL.out.1] at hc
  have HT : Hid (∀ W, Below w3.heap.size w3 W → HsAt W (.slice (some ⟨b, o, none⟩) m cap) L ∧ W.rangeAt b (o + m * 32) (hv h7L).toList ∧ HsAt W (.slice a m c) L ∧ TabL W ∧ TabR W ∧ Below w.heap.size w W) := fun W hb => by
    have hn := (HN.out.next hb).at_
    have hB := HN.out.below.trans (hb.mono HN.out.below.size)
    refine ⟨?_, ?_, (HS.out W hB).1, (HS.out W hB).2.1, (HS.out W hB).2.2, hB⟩
    · have := hn.take m (by omega)
      rwa [← HL.out.1, List.take_left, HL.out.1] at this
    · obtain ⟨-, b', o', e, hr⟩ := hn.cells.2 m h7L (by rw [List.getElem?_append_right (by rw [HL.out.1]; exact Nat.le_refl _), HL.out.1, Nat.sub_self]; rfl)
      simp at e
      obtain ⟨rfl, rfl⟩ := e
      exact hr W (Below.refl _ _)
  have hR64 := prR_short (L := L) i (by have := HL.out; omega)
  obtain ⟨R, hRd⟩ : ∃ R, prR L i = R := ⟨_, rfl⟩
  obtain ⟨E, hE⟩ : ∃ E, prE L i = E := ⟨_, rfl⟩
  obtain ⟨q, hq⟩ : ∃ q, R.length = q := ⟨_, rfl⟩
  rw [hRd, hq] at hR64
  have HP : Hid (∀ W, Below w3.heap.size w3 W → Calls Tryd.prog 9 #[.slice (some ⟨b, o, none⟩) m cap, .int .i64 i] W fun e w' => ∃ a c, e = .returned (.tuple #[.slice a q c, .int .i64 E]) ∧ Mh W W.heap.size (.slice a q c) R w') := fun W hW => by
    have h := prove_both (L := L) (a := some ⟨b, o, none⟩) (c := cap) i (HT.out W hW).2.2.2.1 (by rw [HL.out.1]; exact (HT.out W hW).1) (by have := HL.out; omega) (by have := HL.out; omega)
    rwa [hRd, hE, hq, HL.out.1] at h
  have HQ : Hid (∀ W, Below w3.heap.size w3 W → Calls Tryd.prog 10 #[.slice a m c, .int .i64 i] W fun e w' => ∃ a c, e = .returned (.tuple #[.slice a q c, .int .i64 E]) ∧ Mh W W.heap.size (.slice a q c) R w') := fun W hW => by
    have h := rprove_both (L := L) (a := a) (c := c) i (HT.out W hW).2.2.2.2.1 (by rw [HL.out.1]; exact (HT.out W hW).2.2.1) (by have := HL.out; omega) (by have := HL.out; omega)
    rwa [hRd, hE, hq, HL.out.1] at h
  have HSm : Hid (∀ W v1 v2, HsAt W v1 R → HsAt W v2 R → Calls Tryd.prog 11 #[v1, v2] W fun e w' => e = .returned (.bool true) ∧ Below W.heap.size W w') := fun W v1 v2 h1 h2 => same_hs h1 h2 (by omega)
  have HSl : Hid (∀ W, Below w3.heap.size w3 W → Calls Tryd.prog 11 #[.slice (some ⟨b, o, none⟩) m cap, .slice a m c] W fun e w' => e = .returned (.bool true) ∧ Below W.heap.size W w') := fun W hW => same_hs (HT.out W hW).1 (HT.out W hW).2.2.1 (by have := HL.out; omega)
  have HD : Hid (∀ W, Below w3.heap.size w3 W → Calls Tryd.prog 12 #[] W fun e w' => e = .returned (.bool true) ∧ Below W.heap.size W w') := fun W hW => does11_any W (HT.out W hW).2.2.2.1
  have HqR : Hid (R.length = q) := hq
  clear hRd hE hq HN HS
  refine (HP.out w3 (Below.refl _ _)).mono ?_
  rintro e w4 ⟨pa, pc, rfl, hMp⟩
  have HMp : Hid (Mh w3 w3.heap.size (.slice pa q pc) R w4) := hMp
  clear hMp HP
  go_wp2_with fail
  refine (HQ.out w4 HMp.out.below).mono ?_
  rintro e w5 ⟨ra, rc, rfl, hMr⟩
  have HMp5 : Hid (Mh w3 w3.heap.size (.slice pa q pc) R w5) := HMp.out.next hMr.below
  have HAr : Hid (HsAt w5 (.slice ra q rc) R) := hMr.at_
  clear hMr HQ HMp
  go_wp2_with fail
  refine (HSm.out w5 _ _ HMp5.out.at_ HAr.out).mono ?_
  rintro e w6 ⟨rfl, b6⟩
  have HMp6 : Hid (Mh w3 w3.heap.size (.slice pa q pc) R w6) := HMp5.out.next b6
  have hz1 := hv_one (padTo 32 [9])
  have hzs : (hv (padTo 32 [9])).size = 32 := by rw [hv_size, nine_len]
  have h9e : hv (padTo 32 [9]) = #[.int .u8 9, .int .u8 0, .int .u8 0, .int .u8 0, .int .u8 0, .int .u8 0, .int .u8 0, .int .u8 0, .int .u8 0, .int .u8 0, .int .u8 0, .int .u8 0, .int .u8 0, .int .u8 0, .int .u8 0, .int .u8 0, .int .u8 0, .int .u8 0, .int .u8 0, .int .u8 0, .int .u8 0, .int .u8 0, .int .u8 0, .int .u8 0, .int .u8 0, .int .u8 0, .int .u8 0, .int .u8 0, .int .u8 0, .int .u8 0, .int .u8 0, .int .u8 0] := rfl
  rw [h9e] at hz1 hzs
  have H9e : Hid _ := h9e
  clear b6 HAr HMp5 HSm h9e
  go_wp2
  go_loopw [10] (fun iv wr => ∃ (j : Nat) (Lz : List (List UInt8)), j ≤ q ∧ iv = .int .i64 j ∧ Lz.length = q ∧ Mh w3 w3.heap.size (.slice pa q pc) Lz wr) (fun iv _ => q - (intOf iv).toNat)
  case atStart => exact ⟨0, R, Nat.zero_le _, rfl, HqR.out, HMp6.out⟩
  case round =>
    obtain ⟨j, Lz, hj, rfl, hLz, hMz⟩ := hrel
    clear HMp6
    by_cases hj2 : j < q
    · obtain ⟨g, cur, new, rfl, hgB, hg, hcs, hnew, hMs⟩ := hMz.set j (padTo 32 [9]) hLz hj2 nine_len
      have hnew2 : (cur.toList.take (j * 32) ++ (#[.int .u8 9, .int .u8 0, .int .u8 0, .int .u8 0, .int .u8 0, .int .u8 0, .int .u8 0, .int .u8 0, .int .u8 0, .int .u8 0, .int .u8 0, .int .u8 0, .int .u8 0, .int .u8 0, .int .u8 0, .int .u8 0, .int .u8 0, .int .u8 0, .int .u8 0, .int .u8 0, .int .u8 0, .int .u8 0, .int .u8 0, .int .u8 0, .int .u8 0, .int .u8 0, .int .u8 0, .int .u8 0, .int .u8 0, .int .u8 0, .int .u8 0, .int .u8 0] : Array Value).toList ++ cur.toList.drop (j * 32 + (#[.int .u8 9, .int .u8 0, .int .u8 0, .int .u8 0, .int .u8 0, .int .u8 0, .int .u8 0, .int .u8 0, .int .u8 0, .int .u8 0, .int .u8 0, .int .u8 0, .int .u8 0, .int .u8 0, .int .u8 0, .int .u8 0, .int .u8 0, .int .u8 0, .int .u8 0, .int .u8 0, .int .u8 0, .int .u8 0, .int .u8 0, .int .u8 0, .int .u8 0, .int .u8 0, .int .u8 0, .int .u8 0, .int .u8 0, .int .u8 0, .int .u8 0, .int .u8 0] : Array Value).size)).toArray = new := by rw [hzs]; exact hnew
      have hfit : j * 32 + (#[.int .u8 9, .int .u8 0, .int .u8 0, .int .u8 0, .int .u8 0, .int .u8 0, .int .u8 0, .int .u8 0, .int .u8 0, .int .u8 0, .int .u8 0, .int .u8 0, .int .u8 0, .int .u8 0, .int .u8 0, .int .u8 0, .int .u8 0, .int .u8 0, .int .u8 0, .int .u8 0, .int .u8 0, .int .u8 0, .int .u8 0, .int .u8 0, .int .u8 0, .int .u8 0, .int .u8 0, .int .u8 0, .int .u8 0, .int .u8 0, .int .u8 0, .int .u8 0] : Array Value).size ≤ cur.size := by rw [hzs]; exact hcs
      have HMs : Hid (Mh w3 w3.heap.size (.slice (some ⟨g, 0, none⟩) q pc) (Lz.set j (padTo 32 [9])) (wr.setRow g new)) := hMs
      have hl2 : Hid ((Lz.set j (padTo 32 [9])).length = q) := by show _ = _; rw [List.length_set]; exact hLz
      have k0 : (0 : Int) ≤ (j : Int) := by omega
      have k1 : (j : Int) < (q : Int) := by omega
      have hwj : Hid (wrap64 ((j : Int) + 1) = (j : Int) + 1) := by show _ = _; unfold wrap64; omega
      clear hMs hMz hcs hnew hLz
      go_wp2_with (first | (simp only [hwj.out]) | (refine store_midR rfl 23 _ _ rfl g (j * 32) #[.int .u8 9, .int .u8 0, .int .u8 0, .int .u8 0, .int .u8 0, .int .u8 0, .int .u8 0, .int .u8 0, .int .u8 0, .int .u8 0, .int .u8 0, .int .u8 0, .int .u8 0, .int .u8 0, .int .u8 0, .int .u8 0, .int .u8 0, .int .u8 0, .int .u8 0, .int .u8 0, .int .u8 0, .int .u8 0, .int .u8 0, .int .u8 0, .int .u8 0, .int .u8 0, .int .u8 0, .int .u8 0, .int .u8 0, .int .u8 0, .int .u8 0, .int .u8 0] cur new _ rfl rfl hg hfit (by rw [info_h32, hzs]) hz1 hnew2 ?_) | fail)
      go_roundw
      case rel => exact ⟨j + 1, Lz.set j (padTo 32 [9]), by omega, by go_num, hl2.out, HMs.out⟩
      case measure => simp [intOf]; omega
    · obtain rfl : j = q := by omega
      have k1 : ¬ (j : Int) < (j : Int) := by omega
      have HB : Hid (Below w3.heap.size w3 wr) := hMz.below
      have k2 : (m : Int) ≤ (cap : Int) := by omega
      have k3 : (m : Int) + 1 ≤ (cap : Int) := by omega
      have k4 : (0 : Int) ≤ (m : Int) := by omega
      have k5 : (m : Int) < (m : Int) + 1 := by omega
      have h7 := seven_eq
      have h7e : hv h7L = #[.int .u8 7, .int .u8 0, .int .u8 0, .int .u8 0, .int .u8 0, .int .u8 0, .int .u8 0, .int .u8 0, .int .u8 0, .int .u8 0, .int .u8 0, .int .u8 0, .int .u8 0, .int .u8 0, .int .u8 0, .int .u8 0, .int .u8 0, .int .u8 0, .int .u8 0, .int .u8 0, .int .u8 0, .int .u8 0, .int .u8 0, .int .u8 0, .int .u8 0, .int .u8 0, .int .u8 0, .int .u8 0, .int .u8 0, .int .u8 0, .int .u8 0, .int .u8 0] := rfl
      clear hMz hLz hj hj2 hz1 hzs
      go_wp2_with fail
      refine (HSl.out wr HB.out).mono ?_
      rintro e w7 ⟨rfl, b7⟩
      have HB7 : Hid (Below w3.heap.size w3 w7) := HB.out.trans (b7.mono HB.out.size)
      have hr7 := (HT.out w7 HB7.out).2.1
      rw [h7e] at hr7 h7 hC7
      clear b7 h7e hbld
      go_wp2_with (first | (simp only [hw1.out]) | (refine load_hash (by rfl) _ rfl b (o + m * 32) #[.int .u8 7, .int .u8 0, .int .u8 0, .int .u8 0, .int .u8 0, .int .u8 0, .int .u8 0, .int .u8 0, .int .u8 0, .int .u8 0, .int .u8 0, .int .u8 0, .int .u8 0, .int .u8 0, .int .u8 0, .int .u8 0, .int .u8 0, .int .u8 0, .int .u8 0, .int .u8 0, .int .u8 0, .int .u8 0, .int .u8 0, .int .u8 0, .int .u8 0, .int .u8 0, .int .u8 0, .int .u8 0, .int .u8 0, .int .u8 0, .int .u8 0, .int .u8 0] hC7 rfl hr7 ?_) | fail)
      refine (HD.out w7 HB7.out).mono ?_
      rintro e w8 ⟨rfl, b8⟩
      have HF : Hid (Below w.heap.size w w8) := (HT.out w8 (HB7.out.trans (b8.mono HB7.out.size))).2.2.2.2.2
      clear b8
      go_wp2
      go_ret
      exact ⟨rfl, HF.out⟩
end Go.Proofs.YtficmbaffkkfhaaDoor
