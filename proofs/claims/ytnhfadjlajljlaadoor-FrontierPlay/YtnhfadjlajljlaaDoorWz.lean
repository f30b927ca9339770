/- The law FrontierPlay (layer 10), whatever comes. -/
import Derived.Test.YtnhfadjlajljlaaDoor10v
/- The law FrontierPlay (layer 10), where Load takes it. -/
namespace Go.Proofs.YtnhfadjlajljlaaDoor
open Go.RowKit

theorem Pl.far {W W' : World} {B1 bf kf B2 br kr : Nat} {Lf Lr : List (List UInt8)} {sv hw : Value} (h : Pl W B1 bf kf Lf B2 br kr Lr sv hw) (h12 : B1 ≤ B2) (hb : ∀ k, B1 ≤ k → k < W.heap.size → W'.heap[k]? = W.heap[k]?) : Pl W' B1 bf kf Lf B2 br kr Lr sv hw := by
  refine ⟨h.fr.far hb, h.rf.far fun k hk => hb k (Nat.le_trans h12 hk), ?_, h.len⟩
  obtain ⟨a', m, c', n, h1, h2⟩ := h.sep
  have hlt := h.fr.lt
  have hge := h.fr.ge
  obtain ⟨a, c, f1, f2, f3, f4, -⟩ := h.fr
  obtain rfl := box_once h1 f1
  refine ⟨a', m, c', n, (hb bf hge hlt).trans h1, fun ad ha => ?_⟩
  obtain ⟨⟨cur, h3⟩, h4⟩ := h2 ad ha
  refine ⟨⟨cur, (hb _ ?_ (Array.getElem?_eq_some_iff.1 h3).1).trans h3⟩, h4⟩
  obtain ⟨g, o, e, hg⟩ := f4 ad ha
  rw [e]
  exact hg
theorem Pl.start {w5 w6 : World} {B bf n br : Nat} {L : List (List UInt8)} {sv hw : Value} (hF : Fr w5 B bf n L) (hLd : LdA w5 bf n L) (hR : Rf w6 w5.heap.size br sv hw (szN n) L) (hb : Below w5.heap.size w5 w6) : Pl w6 B bf n L w5.heap.size br n L sv hw := by
  refine ⟨hF.next hb, hR, ?_, hF.len.1⟩
  obtain ⟨a', c', h1, ht⟩ := hLd
  refine ⟨a', _, c', _, (hb.block _ (Array.getElem?_eq_some_iff.1 h1).1).trans h1, fun ad ha => ?_⟩
  obtain ⟨cur, h3⟩ := ht ad ha
  have hlt := (Array.getElem?_eq_some_iff.1 h3).1
  refine ⟨⟨cur, (hb.block _ hlt).trans h3⟩, fun hk => ?_⟩
  have := (row_at hR.hs hk).1
  omega
theorem Mh.blk {w0 w : World} {B n c g : Nat} {L : List (List UInt8)} (h : Mh w0 B (.slice (some ⟨g, 0, none⟩) n c) L w) : g < w.heap.size := by
  obtain ⟨-, cur, e⟩ := row_at (k := g) h.owns rfl
  exact (Array.getElem?_eq_some_iff.1 e).1
theorem abL_32 : ∀ (L : List (List UInt8)) (h : List UInt8), h.length = 32 → (abL nodeL L h).length = 32
  | [], _, h32 => h32
  | _ :: _, _, _ => shaL_length _
theorem puL_32 {t : Nat} {L : List (List UInt8)} {x : List UInt8} (hx : x.length = 32) (h : ∀ y ∈ L, y.length = 32) : ∀ y ∈ puL nodeL t L x, y.length = 32 := by
  intro y hy
  rw [puL, List.mem_append, List.mem_singleton] at hy
  rcases hy with hy | rfl
  · exact h y (List.mem_of_mem_take hy)
  · exact abL_32 _ _ hx
theorem nxL_32 (k : Nat) {L : List (List UInt8)} {x : List UInt8} (hx : x.length = 32) (h : ∀ y ∈ L, y.length = 32) : ∀ y ∈ nxL k L x, y.length = 32 := by
  rw [nxL]
  split
  · exact h
  · exact puL_32 hx h
theorem nxL_len (k : Nat) (L : List (List UInt8)) (x : List UInt8) : (nxL k L x).length ≤ L.length + 1 := by
  rw [nxL]
  split
  · omega
  · rw [puL, List.length_append, List.length_take, List.length_singleton]
    omega
set_option maxRecDepth 100000 in
set_option maxHeartbeats 8000000 in
set_option linter.unusedSimpArgs false in
set_option linter.unusedVariables false in
theorem play_good {w : World} {v1 v2 : Value} {L M : List (List UInt8)} (n : Nat) (hL : HsAt w v1 L) (hM : HsAt w v2 M) (hT : TabP w) (hn1 : n < 9223372036854775808) (hl : L.length ≤ 70) (hm : M.length ≤ 40) (hgood : pcN n = L.length) : Calls Tryd.prog 3 #[.int .i64 (n : Int), v1, v2] w fun e w' => e = .returned (.bool true) ∧ Below w.heap.size w w' := by
  obtain ⟨a, c, rfl, -⟩ := id hL
  obtain ⟨a2, c2, rfl, -⟩ := id hM
  obtain ⟨q, hq⟩ : ∃ q, L.length = q := ⟨_, rfl⟩
  obtain ⟨m, hm'⟩ : ∃ m, M.length = m := ⟨_, rfl⟩
  have HQ : Hid (L.length = q) := hq
  have HMl : Hid (M.length = m) := hm'
  have d1 : decide ((70 : Int) < (q : Int)) = false := by rw [decide_eq_false_iff_not]; omega
  have d2 : decide ((40 : Int) < (m : Int)) = false := by rw [decide_eq_false_iff_not]; omega
  have HN : Hid (HsAt (w.alloc (.cells #[] 30)) (.slice a q c) L) := by
    have := hL.below ((Below.refl _ _).alloc (Nat.le_refl _) (.cells #[] 30))
    rw [hq] at this
    exact this
  have HM0 : Hid (Mh w w.heap.size (.slice (some ⟨w.heap.size, 0, none⟩) 0 0) [] (w.alloc (.cells #[] 30))) := ⟨(Below.refl _ _).alloc (Nat.le_refl _) _, Nat.le_refl _, fun x hx => (by cases hx), World.ownsRow_made w #[] 0 (Nat.le_refl _) (by simp [maxLen]) (by simp)⟩
  have HB1 : Hid (∀ (W : World) (xa : Option Addr) (xc : Nat), HsAt W (.slice xa q xc) L → Calls Tryd.prog 8 #[.int .i64 (n : Int), .slice xa q xc] W fun e w' => ∃ b, e = .returned (.tuple #[.pointer (some ⟨b, 0, none⟩), .int .i64 0]) ∧ (Fr w' W.heap.size b n L ∧ LdA w' b n L) ∧ Below W.heap.size W w') := fun W xa xc h => fload_typed n h (by omega) hn1 hgood
  have HB2 : Hid (∀ (W : World), Below w.heap.size w W → Calls Tryd.prog 9 #[.int .i64 (n : Int), .slice a q c] W fun e w' => ∃ b sv hw, e = .returned (.tuple #[.pointer (some ⟨b, 0, none⟩), .int .i64 0]) ∧ Rf w' W.heap.size b sv hw (szN n) L ∧ Below W.heap.size W w') := fun W hW => by
    have h := hL.below hW
    rw [hq] at h
    exact rload_good n h (by omega) hn1 hgood
  have HTT : Hid (∀ W, Below w.heap.size w W → HsAt W (.slice a2 m c2) M ∧ TabF W ∧ TabR W) := fun W hW => ⟨by rw [← hm']; exact hM.below hW, hT.f.below hW hT.f.lt, hT.r.below hW hT.r.lt⟩
  have HLT : Hid (GtF w.heap.size ∧ 2 < w.heap.size) := ⟨hT.f.lt, hT.r.lt⟩
  have HD : Hid (∀ W, Below w.heap.size w W → Calls Tryd.prog 18 #[] W fun e w' => e = .returned (.bool true) ∧ Below W.heap.size W w') := fun W hW => does10_any W (HTT.out W hW).2.1
  have HGet : Hid (∀ i, i < m → ∃ x, M[i]? = some x ∧ x.length = 32) := fun i hi => ⟨_, List.getElem?_eq_getElem (by omega), hM.len _ (List.getElem_mem _)⟩
  have hq70 : q ≤ 70 := by omega
  have hz1 := hv_one (padTo 32 [])
  have hzs := hz_size
  rw [hq, hm']
  rw [zero_h32] at hz1 hzs
  clear hL hM hT hl hm hgood hq hm' hn1
  go_enter Tryd.func3, Tryd.ntmps3
  go_wp2_with (first | (refine wpList_append_mq rfl (.tmp 24) (.tmp 25) rfl HM0.out _ rfl rfl HN.out L q (by simp) HQ.out (by omega) ?_; intro ya yc w4 _ HR _; have HR : Hid (Mh w w.heap.size (.slice ya q yc) L w4) := HR; clear HM0 HN) | fail)
  refine (HB1.out w4 ya yc (by have := HR.out.at_; exact this)).mono ?_
  rintro e w5 ⟨bf, rfl, ⟨hF5, hLd5⟩, b5⟩
  have HR5 : Hid (Mh w w.heap.size (.slice ya q yc) L w5) := HR.out.next b5
  have HLd : Hid (Fr w5 w4.heap.size bf n L ∧ LdA w5 bf n L) := ⟨hF5, hLd5⟩
  have h45 : Hid (w.heap.size ≤ w4.heap.size ∧ w4.heap.size ≤ w5.heap.size) := ⟨HR.out.below.size, b5.size⟩
  clear hF5 hLd5 b5
  go_wp2_with fail
  refine (HB2.out w5 HR5.out.below).mono ?_
  rintro e w6 ⟨br, sv0, hw0, rfl, hR6, b6⟩
  have HP : Hid (Pl w6 w4.heap.size bf n L w5.heap.size br n L sv0 hw0) := Pl.start HLd.out.1 HLd.out.2 hR6 b6
  have HR6 : Hid (Mh w w.heap.size (.slice ya q yc) L w6) := HR5.out.next b6
  have Hg4 : Hid (∀ g, ya = some ⟨g, 0, none⟩ → g < w4.heap.size) := fun g e => by have := HR.out; rw [e] at this; exact this.blk
  clear hR6 b6 HR HR5 HLd HB1 HB2
  go_wp2
  go_loopw [12] (fun iv wr => ∃ (j : Nat) (Lz : List (List UInt8)), j ≤ q ∧ iv = .int .i64 j ∧ Lz.length = q ∧ Mh w w.heap.size (.slice ya q yc) Lz wr ∧ Pl wr w4.heap.size bf n L w5.heap.size br n L sv0 hw0) (fun iv _ => q - (intOf iv).toNat)
  case atStart => exact ⟨0, L, Nat.zero_le _, rfl, HQ.out, HR6.out, HP.out⟩
  case round =>
    clear HR6 HP
    obtain ⟨j, Lz, hj, rfl, hLz, hMz, hPz⟩ := hrel
    by_cases hj2 : j < q
    · obtain ⟨g, cur, new, rfl, hgB, hg, hcs, hnew, hMs⟩ := hMz.set j (padTo 32 []) hLz hj2 zero_h
      have hnew2 : (cur.toList.take (j * 32) ++ (#[.int .u8 0, .int .u8 0, .int .u8 0, .int .u8 0, .int .u8 0, .int .u8 0, .int .u8 0, .int .u8 0, .int .u8 0, .int .u8 0, .int .u8 0, .int .u8 0, .int .u8 0, .int .u8 0, .int .u8 0, .int .u8 0, .int .u8 0, .int .u8 0, .int .u8 0, .int .u8 0, .int .u8 0, .int .u8 0, .int .u8 0, .int .u8 0, .int .u8 0, .int .u8 0, .int .u8 0, .int .u8 0, .int .u8 0, .int .u8 0, .int .u8 0, .int .u8 0] : Array Value).toList ++ cur.toList.drop (j * 32 + (#[.int .u8 0, .int .u8 0, .int .u8 0, .int .u8 0, .int .u8 0, .int .u8 0, .int .u8 0, .int .u8 0, .int .u8 0, .int .u8 0, .int .u8 0, .int .u8 0, .int .u8 0, .int .u8 0, .int .u8 0, .int .u8 0, .int .u8 0, .int .u8 0, .int .u8 0, .int .u8 0, .int .u8 0, .int .u8 0, .int .u8 0, .int .u8 0, .int .u8 0, .int .u8 0, .int .u8 0, .int .u8 0, .int .u8 0, .int .u8 0, .int .u8 0, .int .u8 0] : Array Value).size)).toArray = new := by rw [hzs, ← zero_h32]; exact hnew
      have hfit : j * 32 + (#[.int .u8 0, .int .u8 0, .int .u8 0, .int .u8 0, .int .u8 0, .int .u8 0, .int .u8 0, .int .u8 0, .int .u8 0, .int .u8 0, .int .u8 0, .int .u8 0, .int .u8 0, .int .u8 0, .int .u8 0, .int .u8 0, .int .u8 0, .int .u8 0, .int .u8 0, .int .u8 0, .int .u8 0, .int .u8 0, .int .u8 0, .int .u8 0, .int .u8 0, .int .u8 0, .int .u8 0, .int .u8 0, .int .u8 0, .int .u8 0, .int .u8 0, .int .u8 0] : Array Value).size ≤ cur.size := by rw [hzs]; exact hcs
      have HMs : Hid (Mh w w.heap.size (.slice (some ⟨g, 0, none⟩) q yc) (Lz.set j (padTo 32 [])) (wr.setRow g new)) := hMs
      have hl2 : Hid ((Lz.set j (padTo 32 [])).length = q) := by show _ = _; rw [List.length_set]; exact hLz
      have hPs : Pl (wr.setRow g new) w4.heap.size bf n L w5.heap.size br n L sv0 hw0 := hPz.far h45.out.2 fun k hk _ => heap_setRow_ne (by have := Hg4.out g rfl; omega)
      have HPs : Hid (Pl (wr.setRow g new) w4.heap.size bf n L w5.heap.size br n L sv0 hw0) := hPs
      clear hPs hPz
      have k0 : (0 : Int) ≤ (j : Int) := by omega
      have k1 : (j : Int) < (q : Int) := by omega
      have hwj : Hid (wrap64 ((j : Int) + 1) = (j : Int) + 1) := by show _ = _; unfold wrap64; omega
      clear hMs hMz hcs hnew hLz
      go_wp2_with (first | (simp only [hwj.out]) | (refine store_midR rfl 30 _ _ rfl g (j * 32) #[.int .u8 0, .int .u8 0, .int .u8 0, .int .u8 0, .int .u8 0, .int .u8 0, .int .u8 0, .int .u8 0, .int .u8 0, .int .u8 0, .int .u8 0, .int .u8 0, .int .u8 0, .int .u8 0, .int .u8 0, .int .u8 0, .int .u8 0, .int .u8 0, .int .u8 0, .int .u8 0, .int .u8 0, .int .u8 0, .int .u8 0, .int .u8 0, .int .u8 0, .int .u8 0, .int .u8 0, .int .u8 0, .int .u8 0, .int .u8 0, .int .u8 0, .int .u8 0] cur new _ rfl rfl hg hfit (by rw [info_h32, hzs]) hz1 hnew2 ?_) | fail)
      go_roundw
      case rel => exact ⟨j + 1, Lz.set j (padTo 32 []), by omega, by go_num, hl2.out, HMs.out, HPs.out⟩
      case measure => simp [intOf]; omega
    · obtain rfl : j = q := by omega
      have k1 : ¬ (j : Int) < (j : Int) := by omega
      have hm40 : m ≤ 40 := by have := of_decide_eq_false d2; omega
      have HPz : Hid (Pl wr w4.heap.size bf n L w5.heap.size br n L sv0 hw0 ∧ Below w.heap.size w wr) := ⟨hPz, hMz.below⟩
      clear hMz hLz hj hj2 hPz Hg4
      go_wp2_with fail
      go_loopw [13] (fun iv wr => ∃ (i k : Nat) (Lc : List (List UInt8)) (sv hw : Value), i ≤ m ∧ iv = .int .i64 i ∧ Pl wr w4.heap.size bf k Lc w5.heap.size br k Lc sv hw ∧ Below w.heap.size w wr) (fun iv _ => m - (intOf iv).toNat)
      case atStart => exact ⟨0, n, L, sv0, hw0, Nat.zero_le _, rfl, HPz.out.1, HPz.out.2⟩
      case round =>
        clear HPz
        obtain ⟨i, k, Lc, sv1, hw1, hi, rfl, hPr, hBr⟩ := hrel
        have hml : m ≤ 40 := hm40
        by_cases hi2 : i < m
        · have hLl1 : Lc.length ≤ 63 := hPr.fr.len.2.1
          obtain ⟨x, hx, hx32⟩ := HGet.out i hi2
          have hk63 := hPr.fr.len.2.2
          obtain ⟨L1, eL1⟩ : ∃ z, nxL k Lc x = z := ⟨_, rfl⟩
          obtain ⟨K, eK⟩ : ∃ z, nxK k = z := ⟨_, rfl⟩
          obtain ⟨p, hp⟩ : ∃ p, L1.length = p := ⟨_, rfl⟩
          have HLp : Hid (L1.length = p) := hp
          have HHs : Hid (∀ (W : World) (s h : Value), Pl W w4.heap.size bf K L1 w5.heap.size br K L1 s h → Calls Tryd.prog 16 #[.pointer (some ⟨bf, 0, none⟩)] W fun e w' => ∃ a c, e = .returned (.slice a p c) ∧ Mh W W.heap.size (.slice a p c) L1 w') := fun W s h hP => by
            have := fhashes_any hP.fr
            rwa [hp] at this
          have HFr1 : Hid (∀ (W : World) (s h : Value), Pl W w4.heap.size bf K L1 w5.heap.size br K L1 s h → Below w.heap.size w W → Calls Tryd.prog 14 #[.pointer (some ⟨bf, 0, none⟩)] W fun e w' => e = .returned (.agg (hv (rtH L1))) ∧ Below W.heap.size W w') := fun W s h hP hW => froot_any hP.fr (HTT.out W hW).2.1.l
          have HRr1 : Hid (∀ (W : World) (s h : Value), Pl W w4.heap.size bf K L1 w5.heap.size br K L1 s h → Below w.heap.size w W → Calls Tryd.prog 15 #[.pointer (some ⟨br, 0, none⟩)] W fun e w' => e = .returned (.agg (hv (rtH L1))) ∧ Below W.heap.size W w') := fun W s h hP hW => rroot10_any hP.rf (HTT.out W hW).2.2 (Nat.le_trans hP.fr.len.2.1 (by decide))
          obtain ⟨E, eE⟩ : ∃ z, nxE k = z := ⟨_, rfl⟩
          obtain ⟨-, b1, o1, rfl, -⟩ := (HTT.out wr hBr).1.cells.2 i x hx
          have HRx : Hid (∀ W, Below w.heap.size w W → W.rangeAt b1 (o1 + i * 32) (hv x).toList) := fun W hW => by
            obtain ⟨-, b', o', e, hr⟩ := (HTT.out W hW).1.cells.2 i x hx
            simp at e
            obtain ⟨rfl, rfl⟩ := e
            exact hr W (Below.refl _ _)
          have HAf : Hid (∀ W, Pl W w4.heap.size bf k Lc w5.heap.size br k Lc sv1 hw1 → Below w.heap.size w W → Calls Tryd.prog 10 #[.pointer (some ⟨bf, 0, none⟩), .agg (hv x)] W fun e w' => e = .returned (.int .i64 E) ∧ Pl w' w4.heap.size bf K L1 w5.heap.size br k Lc sv1 hw1 ∧ Below w.heap.size w w') := fun W hP hW => by
            refine (pl_f x hP (HTT.out W hW).2.1 ⟨⟨Nat.lt_of_lt_of_le HLT.out.1.1.1 h45.out.1, Nat.lt_of_lt_of_le HLT.out.1.1.2 h45.out.1⟩, Nat.lt_of_lt_of_le HLT.out.1.2 h45.out.1⟩ hx32).mono ?_
            rintro e w' ⟨rfl, h1, h2⟩
            rw [eL1, eK] at h1
            rw [eE]
            exact ⟨rfl, h1, hW.trans (h2.mono h45.out.1)⟩
          have HAr : Hid (∀ W, Pl W w4.heap.size bf K L1 w5.heap.size br k Lc sv1 hw1 → Below w.heap.size w W → Calls Tryd.prog 11 #[.pointer (some ⟨br, 0, none⟩), .agg (hv x)] W fun e w' => e = .returned (.int .i64 E) ∧ (∃ sv' hw', Pl w' w4.heap.size bf K L1 w5.heap.size br K L1 sv' hw') ∧ Below w.heap.size w w') := fun W hP hW => by
            refine (pl_r x hP (HTT.out W hW).2.2 (Nat.lt_of_lt_of_le HLT.out.2 (Nat.le_trans h45.out.1 h45.out.2)) hx32 hk63).mono ?_
            rintro e w' ⟨rfl, ⟨s', h', h1⟩, h2⟩
            rw [eL1, eK] at h1
            rw [eE]
            exact ⟨rfl, ⟨s', h', h1⟩, hW.trans (h2.mono (Nat.le_trans h45.out.1 h45.out.2))⟩
          have hL32 : ∀ y ∈ L1, y.length = 32 := by rw [← eL1]; exact nxL_32 k hx32 hPr.fr.h32
          have HLl : Hid (L1.length ≤ 1000000) := by show _ ≤ _; rw [← eL1]; exact Nat.le_trans (nxL_len k Lc x) (by omega)
          have hr32 := rtH_32 hL32
          have hne1 : ∀ w9 : World, (binOp .neq 30 (.agg (hv (rtH L1))) (.agg (hv (rtH L1)))).run Tryd.prog w9 = .ok (.bool false) w9 := fun w9 => by
            have := neqH w9 _ _ hr32 hr32
            simpa using this
          have hxs : (hv x).size = 32 := by rw [hv_size, hx32]
          have ic : Hid ((Tryd.prog.info? 30).map (·.size) = some (hv x).toList.length) := by show _ = _; rw [info_h32, Array.length_toList, hxs]
          have HX0 : Hid (Below w.heap.size w wr) := hBr
          have HP0 : Hid (Pl wr w4.heap.size bf k Lc w5.heap.size br k Lc sv1 hw1) := hPr
          have k0 : (0 : Int) ≤ (i : Int) := by omega
          have k2 : (i : Int) < (m : Int) := by omega
          clear hx hx32 hPr hBr eL1 eK eE hp hL32 hr32 hLl1 hk63
          generalize hv (rtH L1) = RR at *
          generalize hv x = X at *
          go_upto_region 15 with fail
          refine wp_region_held (S := Below w.heap.size w) (by kernel_rfl) ?_
          change wpAnyH _ _ _ _ _ _ _ _ (World.drew _)
          have HX : Below w.heap.size w wr.drew := HX0.out.drew
          have hP := HP0.out.next (Below.refl _ _).drew
          clear HX0 HP0
          generalize World.drew _ = x0 at *
          refine wpAnyH_take (i := 0) (v := .pointer (some ⟨bf, 0, none⟩)) rfl (by kernel_rfl) (by kernel_rfl) (by kernel_rfl) (fun _ _ _ h => h) (Or.inl ⟨by rfl, by intro w9 _; go_simp⟩) HX ?_
          simp only [List.getElem_toArray, List.getElem_cons_succ, List.getElem_cons_zero, Act.put, List.setIfInBounds_toArray, List.set_cons_zero, List.set_cons_succ]
          refine wpAnyH_take (i := 1) (v := .slice (some ⟨b1, o1, none⟩) m c2) rfl (by kernel_rfl) (by kernel_rfl) (by kernel_rfl) (fun _ _ _ h => h) (Or.inl ⟨by rfl, by intro w9 _; go_simp⟩) HX ?_
          simp only [List.getElem_toArray, List.getElem_cons_succ, List.getElem_cons_zero, Act.put, List.setIfInBounds_toArray, List.set_cons_zero, List.set_cons_succ]
          refine wpAnyH_take (i := 2) (v := .int .i64 (i : Int)) rfl (by kernel_rfl) (by kernel_rfl) (by kernel_rfl) (fun _ _ _ h => h) (Or.inl ⟨by rfl, by intro w9 _; go_simp⟩) HX ?_
          simp only [List.getElem_toArray, List.getElem_cons_succ, List.getElem_cons_zero, Act.put, List.setIfInBounds_toArray, List.set_cons_zero, List.set_cons_succ]
          refine wpAnyH_take (i := 3) (v := .pointer (some ⟨b1, o1 + i * 32, none⟩)) rfl (by kernel_rfl) (by kernel_rfl) (by kernel_rfl) (fun _ _ _ h => h) (Or.inl ⟨by rfl, by intro w9 _; go_simp⟩) HX ?_
          simp only [List.getElem_toArray, List.getElem_cons_succ, List.getElem_cons_zero, Act.put, List.setIfInBounds_toArray, List.set_cons_zero, List.set_cons_succ]
          refine wpAnyH_take (i := 4) (v := .agg X) rfl (by kernel_rfl) (by kernel_rfl) (by kernel_rfl) (fun _ _ _ h => h) (yieldsIf_load_mid (by rfl) 30 _ rfl b1 (o1 + i * 32) rfl X.toList _ (fun w' h => HRx.out w' h) Tryd.underlying30 rfl ic.out) HX ?_
          simp only [List.getElem_toArray, List.getElem_cons_succ, List.getElem_cons_zero, Act.put, List.setIfInBounds_toArray, List.set_cons_zero, List.set_cons_succ]
          refine wpAnyH_take (i := 6) (v := .pointer (some ⟨br, 0, none⟩)) rfl (by kernel_rfl) (by kernel_rfl) (by kernel_rfl) (fun _ _ _ h => h) (Or.inl ⟨by rfl, by intro w9 _; go_simp⟩) HX ?_
          simp only [List.getElem_toArray, List.getElem_cons_succ, List.getElem_cons_zero, Act.put, List.setIfInBounds_toArray, List.set_cons_zero, List.set_cons_succ]
          refine wpAnyH_take (i := 7) (v := .slice (some ⟨b1, o1, none⟩) m c2) rfl (by kernel_rfl) (by kernel_rfl) (by kernel_rfl) (fun _ _ _ h => h) (Or.inl ⟨by rfl, by intro w9 _; go_simp⟩) HX ?_
          simp only [List.getElem_toArray, List.getElem_cons_succ, List.getElem_cons_zero, Act.put, List.setIfInBounds_toArray, List.set_cons_zero, List.set_cons_succ]
          refine wpAnyH_take (i := 8) (v := .int .i64 (i : Int)) rfl (by kernel_rfl) (by kernel_rfl) (by kernel_rfl) (fun _ _ _ h => h) (Or.inl ⟨by rfl, by intro w9 _; go_simp⟩) HX ?_
          simp only [List.getElem_toArray, List.getElem_cons_succ, List.getElem_cons_zero, Act.put, List.setIfInBounds_toArray, List.set_cons_zero, List.set_cons_succ]
          refine wpAnyH_take (i := 9) (v := .pointer (some ⟨b1, o1 + i * 32, none⟩)) rfl (by kernel_rfl) (by kernel_rfl) (by kernel_rfl) (fun _ _ _ h => h) (Or.inl ⟨by rfl, by intro w9 _; go_simp⟩) HX ?_
          simp only [List.getElem_toArray, List.getElem_cons_succ, List.getElem_cons_zero, Act.put, List.setIfInBounds_toArray, List.set_cons_zero, List.set_cons_succ]
          refine wpAnyH_take (i := 10) (v := .agg X) rfl (by kernel_rfl) (by kernel_rfl) (by kernel_rfl) (fun _ _ _ h => h) (yieldsIf_load_mid (by rfl) 30 _ rfl b1 (o1 + i * 32) rfl X.toList _ (fun w' h => HRx.out w' h) Tryd.underlying30 rfl ic.out) HX ?_
          simp only [List.getElem_toArray, List.getElem_cons_succ, List.getElem_cons_zero, Act.put, List.setIfInBounds_toArray, List.set_cons_zero, List.set_cons_succ]
          refine wpAnyH_ready (rs := [5]) (by kernel_rfl) (by simp) (AllReadyH.cons (by simp only [List.getElem?_toArray, List.getElem?_cons_succ, List.getElem?_cons_zero]; rfl) (fun K hK => ?_) AllReadyH.nil)
          refine step_want (by rfl) ?_
          go_simp
          refine (HAf.out x0 hP HX).mono ?_
          rintro e y1 ⟨rfl, hP, HX⟩
          refine hK.out _ _ HX (fun _ => ?_)
          clear hK K
          try simp only [List.getElem_toArray, List.getElem_cons_succ, List.getElem_cons_zero, Act.put, List.setIfInBounds_toArray, List.set_cons_zero, List.set_cons_succ]
          refine wpAnyH_ready (rs := [11]) (by kernel_rfl) (by simp) (AllReadyH.cons (by simp only [List.getElem?_toArray, List.getElem?_cons_succ, List.getElem?_cons_zero]; rfl) (fun K hK => ?_) AllReadyH.nil)
          refine step_want (by rfl) ?_
          go_simp
          refine (HAr.out y1 hP HX).mono ?_
          rintro e y2 ⟨rfl, ⟨sv1, hw1, hP⟩, HX⟩
          refine hK.out _ _ HX (fun _ => ?_)
          clear hK K
          try simp only [List.getElem_toArray, List.getElem_cons_succ, List.getElem_cons_zero, Act.put, List.setIfInBounds_toArray, List.set_cons_zero, List.set_cons_succ]
          refine wpAnyH_take (i := 12) (v := .bool false) rfl (by kernel_rfl) (by kernel_rfl) (by kernel_rfl) (fun _ _ _ h => h) (Or.inl ⟨by rfl, by intro w9 _; go_simp⟩) HX ?_
          simp only [List.getElem_toArray, List.getElem_cons_succ, List.getElem_cons_zero, Act.put, List.setIfInBounds_toArray, List.set_cons_zero, List.set_cons_succ]
          refine wpAnyH_take (i := 13) (v := .bool false) rfl (by kernel_rfl) (by kernel_rfl) (by kernel_rfl) (fun _ _ _ h => h) (Or.inl ⟨by rfl, by intro w9 _; go_simp⟩) HX ?_
          simp only [List.getElem_toArray, List.getElem_cons_succ, List.getElem_cons_zero, Act.put, List.setIfInBounds_toArray, List.set_cons_zero, List.set_cons_succ]
          refine wpAnyH_take (i := 14) (v := .pointer (some ⟨bf, 0, none⟩)) rfl (by kernel_rfl) (by kernel_rfl) (by kernel_rfl) (fun _ _ _ h => h) (Or.inl ⟨by rfl, by intro w9 _; go_simp⟩) HX ?_
          simp only [List.getElem_toArray, List.getElem_cons_succ, List.getElem_cons_zero, Act.put, List.setIfInBounds_toArray, List.set_cons_zero, List.set_cons_succ]
          refine wpAnyH_take (i := 16) (v := .pointer (some ⟨br, 0, none⟩)) rfl (by kernel_rfl) (by kernel_rfl) (by kernel_rfl) (fun _ _ _ h => h) (Or.inl ⟨by rfl, by intro w9 _; go_simp⟩) HX ?_
          simp only [List.getElem_toArray, List.getElem_cons_succ, List.getElem_cons_zero, Act.put, List.setIfInBounds_toArray, List.set_cons_zero, List.set_cons_succ]
          refine wpAnyH_ready (rs := [15]) (by kernel_rfl) (by simp) (AllReadyH.cons (by simp only [List.getElem?_toArray, List.getElem?_cons_succ, List.getElem?_cons_zero]; rfl) (fun K hK => ?_) AllReadyH.nil)
          refine step_want (by rfl) ?_
          go_simp
          refine (flen_any hP.fr).mono ?_
          rintro e y2 ⟨rfl, rfl⟩
          refine hK.out _ _ HX (fun _ => ?_)
          clear hK K
          try simp only [List.getElem_toArray, List.getElem_cons_succ, List.getElem_cons_zero, Act.put, List.setIfInBounds_toArray, List.set_cons_zero, List.set_cons_succ]
          refine wpAnyH_ready (rs := [17]) (by kernel_rfl) (by simp) (AllReadyH.cons (by simp only [List.getElem?_toArray, List.getElem?_cons_succ, List.getElem?_cons_zero]; rfl) (fun K hK => ?_) AllReadyH.nil)
          refine step_want (by rfl) ?_
          go_simp
          refine (rlen_any hP.rf hP.fr.len.2.2).mono ?_
          rintro e y2 ⟨rfl, rfl⟩
          refine hK.out _ _ HX (fun _ => ?_)
          clear hK K
          try simp only [List.getElem_toArray, List.getElem_cons_succ, List.getElem_cons_zero, Act.put, List.setIfInBounds_toArray, List.set_cons_zero, List.set_cons_succ]
          refine wpAnyH_take (i := 18) (v := .bool false) rfl (by kernel_rfl) (by kernel_rfl) (by kernel_rfl) (fun _ _ _ h => h) (Or.inl ⟨by rfl, by intro w9 _; go_simp⟩) HX ?_
          simp only [List.getElem_toArray, List.getElem_cons_succ, List.getElem_cons_zero, Act.put, List.setIfInBounds_toArray, List.set_cons_zero, List.set_cons_succ]
          refine wpAnyH_take (i := 19) (v := .bool false) rfl (by kernel_rfl) (by kernel_rfl) (by kernel_rfl) (fun _ _ _ h => h) (Or.inl ⟨by rfl, by intro w9 _; go_simp⟩) HX ?_
          simp only [List.getElem_toArray, List.getElem_cons_succ, List.getElem_cons_zero, Act.put, List.setIfInBounds_toArray, List.set_cons_zero, List.set_cons_succ]
          refine wpAnyH_take (i := 20) (v := .bool false) rfl (by kernel_rfl) (by kernel_rfl) (by kernel_rfl) (fun _ _ _ h => h) (Or.inl ⟨by rfl, by intro w9 _; go_simp⟩) HX ?_
          simp only [List.getElem_toArray, List.getElem_cons_succ, List.getElem_cons_zero, Act.put, List.setIfInBounds_toArray, List.set_cons_zero, List.set_cons_succ]
          refine wpAnyH_take (i := 21) (v := .pointer (some ⟨bf, 0, none⟩)) rfl (by kernel_rfl) (by kernel_rfl) (by kernel_rfl) (fun _ _ _ h => h) (Or.inl ⟨by rfl, by intro w9 _; go_simp⟩) HX ?_
          simp only [List.getElem_toArray, List.getElem_cons_succ, List.getElem_cons_zero, Act.put, List.setIfInBounds_toArray, List.set_cons_zero, List.set_cons_succ]
          refine wpAnyH_take (i := 23) (v := .pointer (some ⟨br, 0, none⟩)) rfl (by kernel_rfl) (by kernel_rfl) (by kernel_rfl) (fun _ _ _ h => h) (Or.inl ⟨by rfl, by intro w9 _; go_simp⟩) HX ?_
          simp only [List.getElem_toArray, List.getElem_cons_succ, List.getElem_cons_zero, Act.put, List.setIfInBounds_toArray, List.set_cons_zero, List.set_cons_succ]
          refine wpAnyH_ready (rs := [22]) (by kernel_rfl) (by simp) (AllReadyH.cons (by simp only [List.getElem?_toArray, List.getElem?_cons_succ, List.getElem?_cons_zero]; rfl) (fun K hK => ?_) AllReadyH.nil)
          refine step_want (by rfl) ?_
          go_simp
          refine (HFr1.out y2 _ _ hP HX).mono ?_
          rintro e y3 ⟨rfl, bc⟩
          have HX : Below w.heap.size w y3 := HX.trans (bc.mono HX.size)
          have hP := hP.next bc
          clear bc
          refine hK.out _ _ HX (fun _ => ?_)
          clear hK K
          try simp only [List.getElem_toArray, List.getElem_cons_succ, List.getElem_cons_zero, Act.put, List.setIfInBounds_toArray, List.set_cons_zero, List.set_cons_succ]
          refine wpAnyH_ready (rs := [24]) (by kernel_rfl) (by simp) (AllReadyH.cons (by simp only [List.getElem?_toArray, List.getElem?_cons_succ, List.getElem?_cons_zero]; rfl) (fun K hK => ?_) AllReadyH.nil)
          refine step_want (by rfl) ?_
          go_simp
          refine (HRr1.out y3 _ _ hP HX).mono ?_
          rintro e y4 ⟨rfl, bc⟩
          have HX : Below w.heap.size w y4 := HX.trans (bc.mono HX.size)
          have hP := hP.next bc
          clear bc
          refine hK.out _ _ HX (fun _ => ?_)
          clear hK K
          try simp only [List.getElem_toArray, List.getElem_cons_succ, List.getElem_cons_zero, Act.put, List.setIfInBounds_toArray, List.set_cons_zero, List.set_cons_succ]
          refine wpAnyH_take (i := 25) (v := .bool false) rfl (by kernel_rfl) (by kernel_rfl) (by kernel_rfl) (fun _ _ _ h => h) (Or.inl ⟨by rfl, by intro w9 _; go_simp⟩) HX ?_
          simp only [List.getElem_toArray, List.getElem_cons_succ, List.getElem_cons_zero, Act.put, List.setIfInBounds_toArray, List.set_cons_zero, List.set_cons_succ]
          refine wpAnyH_take (i := 26) (v := .bool false) rfl (by kernel_rfl) (by kernel_rfl) (by kernel_rfl) (fun _ _ _ h => h) (Or.inl ⟨by rfl, by intro w9 _; go_simp⟩) HX ?_
          simp only [List.getElem_toArray, List.getElem_cons_succ, List.getElem_cons_zero, Act.put, List.setIfInBounds_toArray, List.set_cons_zero, List.set_cons_succ]
          refine wpAnyH_done (by kernel_rfl) ?_ _
          have HP2 : Hid (Pl y4 w4.heap.size bf K L1 w5.heap.size br K L1 sv1 hw1) := hP
          have HX2 : Hid (Below w.heap.size w y4) := HX
          clear hP HX HAf HAr HFr1 HRr1 HRx ic hne1 hxs
          go_wp2_with fail
          refine (HHs.out y4 _ _ HP2.out).mono ?_
          rintro e w8 ⟨za, zc, rfl, hM8⟩
          have hp63 : p ≤ 63 := by have h8 := HP2.out.fr.len.2.1; rw [HLp.out] at h8; exact h8
          have HZ0 : Hid (Mh y4 y4.heap.size (.slice za p zc) L1 w8) := hM8
          have HY : Hid (∀ W, Below y4.heap.size y4 W → Pl W w4.heap.size bf K L1 w5.heap.size br K L1 sv1 hw1 ∧ Below w.heap.size w W) := fun W h => ⟨HP2.out.next h, HX2.out.trans (h.mono HX2.out.size)⟩
          clear hM8 HP2 HX2
          generalize y4 = y at *
          go_wp2
          go_loopw [15] (fun iv wr => ∃ (j : Nat) (Lz : List (List UInt8)), j ≤ p ∧ iv = .int .i64 j ∧ Lz.length = p ∧ Mh y y.heap.size (.slice za p zc) Lz wr) (fun iv _ => p - (intOf iv).toNat)
          case atStart => exact ⟨0, L1, Nat.zero_le _, rfl, HLp.out, HZ0.out⟩
          case round =>
            clear HZ0
            obtain ⟨j, Lz, hj, rfl, hLz, hMz⟩ := hrel
            by_cases hj2 : j < p
            · obtain ⟨g, cur, new, rfl, hgB, hg, hcs, hnew, hMs⟩ := hMz.set j (padTo 32 []) hLz hj2 zero_h
              have hnew2 : (cur.toList.take (j * 32) ++ (#[.int .u8 0, .int .u8 0, .int .u8 0, .int .u8 0, .int .u8 0, .int .u8 0, .int .u8 0, .int .u8 0, .int .u8 0, .int .u8 0, .int .u8 0, .int .u8 0, .int .u8 0, .int .u8 0, .int .u8 0, .int .u8 0, .int .u8 0, .int .u8 0, .int .u8 0, .int .u8 0, .int .u8 0, .int .u8 0, .int .u8 0, .int .u8 0, .int .u8 0, .int .u8 0, .int .u8 0, .int .u8 0, .int .u8 0, .int .u8 0, .int .u8 0, .int .u8 0] : Array Value).toList ++ cur.toList.drop (j * 32 + (#[.int .u8 0, .int .u8 0, .int .u8 0, .int .u8 0, .int .u8 0, .int .u8 0, .int .u8 0, .int .u8 0, .int .u8 0, .int .u8 0, .int .u8 0, .int .u8 0, .int .u8 0, .int .u8 0, .int .u8 0, .int .u8 0, .int .u8 0, .int .u8 0, .int .u8 0, .int .u8 0, .int .u8 0, .int .u8 0, .int .u8 0, .int .u8 0, .int .u8 0, .int .u8 0, .int .u8 0, .int .u8 0, .int .u8 0, .int .u8 0, .int .u8 0, .int .u8 0] : Array Value).size)).toArray = new := by rw [hzs, ← zero_h32]; exact hnew
              have hfit : j * 32 + (#[.int .u8 0, .int .u8 0, .int .u8 0, .int .u8 0, .int .u8 0, .int .u8 0, .int .u8 0, .int .u8 0, .int .u8 0, .int .u8 0, .int .u8 0, .int .u8 0, .int .u8 0, .int .u8 0, .int .u8 0, .int .u8 0, .int .u8 0, .int .u8 0, .int .u8 0, .int .u8 0, .int .u8 0, .int .u8 0, .int .u8 0, .int .u8 0, .int .u8 0, .int .u8 0, .int .u8 0, .int .u8 0, .int .u8 0, .int .u8 0, .int .u8 0, .int .u8 0] : Array Value).size ≤ cur.size := by rw [hzs]; exact hcs
              have HMs : Hid (Mh y y.heap.size (.slice (some ⟨g, 0, none⟩) p zc) (Lz.set j (padTo 32 [])) (wr.setRow g new)) := hMs
              have hl2 : Hid ((Lz.set j (padTo 32 [])).length = p) := by show _ = _; rw [List.length_set]; exact hLz
              have k0 : (0 : Int) ≤ (j : Int) := by omega
              have k1 : (j : Int) < (p : Int) := by omega
              have hwj : Hid (wrap64 ((j : Int) + 1) = (j : Int) + 1) := by show _ = _; unfold wrap64; omega
              clear hMs hMz hcs hnew hLz
              go_wp2_with (first | (simp only [hwj.out]) | (refine store_midR rfl 30 _ _ rfl g (j * 32) #[.int .u8 0, .int .u8 0, .int .u8 0, .int .u8 0, .int .u8 0, .int .u8 0, .int .u8 0, .int .u8 0, .int .u8 0, .int .u8 0, .int .u8 0, .int .u8 0, .int .u8 0, .int .u8 0, .int .u8 0, .int .u8 0, .int .u8 0, .int .u8 0, .int .u8 0, .int .u8 0, .int .u8 0, .int .u8 0, .int .u8 0, .int .u8 0, .int .u8 0, .int .u8 0, .int .u8 0, .int .u8 0, .int .u8 0, .int .u8 0, .int .u8 0, .int .u8 0] cur new _ rfl rfl hg hfit (by rw [info_h32, hzs]) hz1 hnew2 ?_) | fail)
              go_roundw
              case rel => exact ⟨j + 1, Lz.set j (padTo 32 []), by omega, by go_num, hl2.out, HMs.out⟩
              case measure => simp [intOf]; omega
            · obtain rfl : j = p := by omega
              have k1 : ¬ (j : Int) < (j : Int) := by omega
              have HQ9 := HY.out wr hMz.below
              have HC : Hid (∀ W, Below wr.heap.size wr W → W.cell? ⟨br, 1, none⟩ = some hw1 ∧ Pl W w4.heap.size bf K L1 w5.heap.size br K L1 sv1 hw1 ∧ Below w.heap.size w W) := fun W h => ⟨(HQ9.1.next h).rf.cells.2, HQ9.1.next h, HQ9.2.trans (h.mono HQ9.2.size)⟩
              have HX0 : Hid (Below wr.heap.size wr wr) := Below.refl _ _
              clear HQ9 HY hMz hLz hj hj2
              go_upto_region 22 with fail
              refine wp_region_held (S := Below wr.heap.size wr) (by kernel_rfl) ?_
              change wpAnyH _ _ _ _ _ _ _ _ (World.drew _)
              have HX : Below wr.heap.size wr wr.drew := HX0.out.drew
              clear HX0
              generalize World.drew _ = x0 at *
              refine wpAnyH_take (i := 0) (v := .pointer (some ⟨bf, 0, none⟩)) rfl (by kernel_rfl) (by kernel_rfl) (by kernel_rfl) (fun _ _ _ h => h) (Or.inl ⟨by rfl, by intro w9 _; go_simp⟩) HX ?_
              simp only [List.getElem_toArray, List.getElem_cons_succ, List.getElem_cons_zero, Act.put, List.setIfInBounds_toArray, List.set_cons_zero, List.set_cons_succ]
              refine wpAnyH_take (i := 2) (v := .pointer (some ⟨br, 0, none⟩)) rfl (by kernel_rfl) (by kernel_rfl) (by kernel_rfl) (fun _ _ _ h => h) (Or.inl ⟨by rfl, by intro w9 _; go_simp⟩) HX ?_
              simp only [List.getElem_toArray, List.getElem_cons_succ, List.getElem_cons_zero, Act.put, List.setIfInBounds_toArray, List.set_cons_zero, List.set_cons_succ]
              refine wpAnyH_take (i := 3) (v := .pointer (some ⟨br, 0, none⟩)) rfl (by kernel_rfl) (by kernel_rfl) (by kernel_rfl) (fun _ _ _ h => h) (Or.inl ⟨by rfl, by intro w9 _; go_simp⟩) HX ?_
              simp only [List.getElem_toArray, List.getElem_cons_succ, List.getElem_cons_zero, Act.put, List.setIfInBounds_toArray, List.set_cons_zero, List.set_cons_succ]
              refine wpAnyH_take (i := 4) (v := .pointer (some ⟨br, 1, none⟩)) rfl (by kernel_rfl) (by kernel_rfl) (by kernel_rfl) (fun _ _ _ h => h) (Or.inl ⟨by rfl, by intro w9 _; go_simp⟩) HX ?_
              simp only [List.getElem_toArray, List.getElem_cons_succ, List.getElem_cons_zero, Act.put, List.setIfInBounds_toArray, List.set_cons_zero, List.set_cons_succ]
              refine wpAnyH_take (i := 5) (v := hw1) rfl (by kernel_rfl) (by kernel_rfl) (by kernel_rfl) (fun _ _ _ h => h) (Or.inl ⟨by rfl, by intro w9 h9; have c9 := (HC.out w9 h9).1; go_simp⟩) HX ?_
              simp only [List.getElem_toArray, List.getElem_cons_succ, List.getElem_cons_zero, Act.put, List.setIfInBounds_toArray, List.set_cons_zero, List.set_cons_succ]
              refine wpAnyH_ready (rs := [1]) (by kernel_rfl) (by simp) (AllReadyH.cons (by simp only [List.getElem?_toArray, List.getElem?_cons_succ, List.getElem?_cons_zero]; rfl) (fun K hK => ?_) AllReadyH.nil)
              refine step_want (by rfl) ?_
              go_simp
              refine (HHs.out x0 _ _ (HC.out _ HX).2.1).mono ?_
              rintro e y1 ⟨xa, xc, rfl, hM3⟩
              have HX : Below wr.heap.size wr y1 := HX.trans (hM3.below.mono HX.size)
              have HM3 : Hid (Mh x0 x0.heap.size (.slice xa j xc) _ y1) := hM3
              clear hM3
              refine hK.out _ _ HX (fun _ => ?_)
              clear hK K
              try simp only [List.getElem_toArray, List.getElem_cons_succ, List.getElem_cons_zero, Act.put, List.setIfInBounds_toArray, List.set_cons_zero, List.set_cons_succ]
              refine wpAnyH_ready (rs := [6]) (by kernel_rfl) (by simp) (AllReadyH.cons (by simp only [List.getElem?_toArray, List.getElem?_cons_succ, List.getElem?_cons_zero]; rfl) (fun K hK => ?_) AllReadyH.nil)
              refine step_want (by rfl) ?_
              go_simp
              refine (same_hs HM3.out.at_ (HC.out _ HX).2.1.rf.hsAt HLl.out).mono ?_
              rintro e y2 ⟨rfl, bc⟩
              have HX : Below wr.heap.size wr y2 := HX.trans (bc.mono HX.size)
              clear bc HM3
              refine hK.out _ _ HX (fun _ => ?_)
              clear hK K
              try simp only [List.getElem_toArray, List.getElem_cons_succ, List.getElem_cons_zero, Act.put, List.setIfInBounds_toArray, List.set_cons_zero, List.set_cons_succ]
              refine wpAnyH_take (i := 7) (v := .bool false) rfl (by kernel_rfl) (by kernel_rfl) (by kernel_rfl) (fun _ _ _ h => h) (Or.inl ⟨by rfl, by intro w9 _; go_simp⟩) HX ?_
              simp only [List.getElem_toArray, List.getElem_cons_succ, List.getElem_cons_zero, Act.put, List.setIfInBounds_toArray, List.set_cons_zero, List.set_cons_succ]
              refine wpAnyH_done (by kernel_rfl) ?_ _
              have HP3 : Hid (Pl y2 w4.heap.size bf K L1 w5.heap.size br K L1 sv1 hw1 ∧ Below w.heap.size w y2) := (HC.out _ HX).2
              clear HX HC
              have HwI : Hid (wrap64 ((i : Int) + 1) = ((i + 1 : Nat) : Int)) := by show _ = _; unfold wrap64; omega
              go_wp2_with (first | (simp only [HwI.out]) | fail)
              go_roundw
              case rel => exact ⟨i + 1, K, L1, sv1, hw1, by omega, by first | rfl | go_num, HP3.out.1, HP3.out.2⟩
              case measure => simp [intOf]; omega
        · obtain rfl : i = m := by omega
          have k2 : ¬ (i : Int) < (i : Int) := by omega
          obtain ⟨L1, eL1⟩ : ∃ z, Lc = z := ⟨_, rfl⟩
          obtain ⟨K, eK⟩ : ∃ z, k = z := ⟨_, rfl⟩
          obtain ⟨p, hp⟩ : ∃ p, L1.length = p := ⟨_, rfl⟩
          have HLp : Hid (L1.length = p) := hp
          have HHs : Hid (∀ (W : World) (s h : Value), Pl W w4.heap.size bf K L1 w5.heap.size br K L1 s h → Calls Tryd.prog 16 #[.pointer (some ⟨bf, 0, none⟩)] W fun e w' => ∃ a c, e = .returned (.slice a p c) ∧ Mh W W.heap.size (.slice a p c) L1 w') := fun W s h hP => by
            have := fhashes_any hP.fr
            rwa [hp] at this
          have HFr1 : Hid (∀ (W : World) (s h : Value), Pl W w4.heap.size bf K L1 w5.heap.size br K L1 s h → Below w.heap.size w W → Calls Tryd.prog 14 #[.pointer (some ⟨bf, 0, none⟩)] W fun e w' => e = .returned (.agg (hv (rtH L1))) ∧ Below W.heap.size W w') := fun W s h hP hW => froot_any hP.fr (HTT.out W hW).2.1.l
          have HRr1 : Hid (∀ (W : World) (s h : Value), Pl W w4.heap.size bf K L1 w5.heap.size br K L1 s h → Below w.heap.size w W → Calls Tryd.prog 15 #[.pointer (some ⟨br, 0, none⟩)] W fun e w' => e = .returned (.agg (hv (rtH L1))) ∧ Below W.heap.size W w') := fun W s h hP hW => rroot10_any hP.rf (HTT.out W hW).2.2 (Nat.le_trans hP.fr.len.2.1 (by decide))
          subst eL1 eK
          have hL32 : ∀ y ∈ Lc, y.length = 32 := hPr.fr.h32
          have HLl : Hid (Lc.length ≤ 1000000) := Nat.le_trans hPr.fr.len.2.1 (by decide)
          have hr32 := rtH_32 hL32
          have heq1 : ∀ w9 : World, (binOp .eql 30 (.agg (hv (rtH Lc))) (.agg (hv (rtH Lc)))).run Tryd.prog w9 = .ok (.bool true) w9 := fun w9 => by
            have := eqH w9 _ _ hr32 hr32
            rwa [beq_self_eq_true] at this
          have HC : Hid (∀ W, Below wr.heap.size wr W → W.cell? ⟨br, 1, none⟩ = some hw1 ∧ Pl W w4.heap.size bf k Lc w5.heap.size br k Lc sv1 hw1 ∧ Below w.heap.size w W) := fun W h => ⟨(hPr.next h).rf.cells.2, hPr.next h, hBr.trans (h.mono hBr.size)⟩
          have HX0 : Hid (Below wr.heap.size wr wr) := Below.refl _ _
          clear hPr hBr hL32 hr32 hp
          generalize hv (rtH Lc) = RR at *
          go_upto_region 24 with fail
          refine wp_region_held (S := Below wr.heap.size wr) (by kernel_rfl) ?_
          change wpAnyH _ _ _ _ _ _ _ _ (World.drew _)
          have HX : Below wr.heap.size wr wr.drew := HX0.out.drew
          clear HX0
          generalize World.drew _ = x0 at *
          refine wpAnyH_take (i := 0) (v := .pointer (some ⟨br, 0, none⟩)) rfl (by kernel_rfl) (by kernel_rfl) (by kernel_rfl) (fun _ _ _ h => h) (Or.inl ⟨by rfl, by intro w9 _; go_simp⟩) HX ?_
          simp only [List.getElem_toArray, List.getElem_cons_succ, List.getElem_cons_zero, Act.put, List.setIfInBounds_toArray, List.set_cons_zero, List.set_cons_succ]
          refine wpAnyH_take (i := 1) (v := .bool false) rfl (by kernel_rfl) (by kernel_rfl) (by kernel_rfl) (fun _ _ _ h => h) (Or.inl ⟨by rfl, by intro w9 _; go_simp⟩) HX ?_
          simp only [List.getElem_toArray, List.getElem_cons_succ, List.getElem_cons_zero, Act.put, List.setIfInBounds_toArray, List.set_cons_zero, List.set_cons_succ]
          refine wpAnyH_take (i := 2) (v := .bool false) rfl (by kernel_rfl) (by kernel_rfl) (by kernel_rfl) (fun _ _ _ h => h) (Or.inl ⟨by rfl, by intro w9 _; go_simp⟩) HX ?_
          simp only [List.getElem_toArray, List.getElem_cons_succ, List.getElem_cons_zero, Act.put, List.setIfInBounds_toArray, List.set_cons_zero, List.set_cons_succ]
          refine wpAnyH_take (i := 3) (v := .pointer (some ⟨bf, 0, none⟩)) rfl (by kernel_rfl) (by kernel_rfl) (by kernel_rfl) (fun _ _ _ h => h) (Or.inl ⟨by rfl, by intro w9 _; go_simp⟩) HX ?_
          simp only [List.getElem_toArray, List.getElem_cons_succ, List.getElem_cons_zero, Act.put, List.setIfInBounds_toArray, List.set_cons_zero, List.set_cons_succ]
          refine wpAnyH_take (i := 5) (v := .pointer (some ⟨br, 0, none⟩)) rfl (by kernel_rfl) (by kernel_rfl) (by kernel_rfl) (fun _ _ _ h => h) (Or.inl ⟨by rfl, by intro w9 _; go_simp⟩) HX ?_
          simp only [List.getElem_toArray, List.getElem_cons_succ, List.getElem_cons_zero, Act.put, List.setIfInBounds_toArray, List.set_cons_zero, List.set_cons_succ]
          refine wpAnyH_ready (rs := [4]) (by kernel_rfl) (by simp) (AllReadyH.cons (by simp only [List.getElem?_toArray, List.getElem?_cons_succ, List.getElem?_cons_zero]; rfl) (fun K hK => ?_) AllReadyH.nil)
          refine step_want (by rfl) ?_
          go_simp
          refine (HFr1.out x0 _ _ (HC.out _ HX).2.1 (HC.out _ HX).2.2).mono ?_
          rintro e y1 ⟨rfl, bc⟩
          have HX : Below wr.heap.size wr y1 := HX.trans (bc.mono HX.size)
          clear bc
          refine hK.out _ _ HX (fun _ => ?_)
          clear hK K
          try simp only [List.getElem_toArray, List.getElem_cons_succ, List.getElem_cons_zero, Act.put, List.setIfInBounds_toArray, List.set_cons_zero, List.set_cons_succ]
          refine wpAnyH_ready (rs := [6]) (by kernel_rfl) (by simp) (AllReadyH.cons (by simp only [List.getElem?_toArray, List.getElem?_cons_succ, List.getElem?_cons_zero]; rfl) (fun K hK => ?_) AllReadyH.nil)
          refine step_want (by rfl) ?_
          go_simp
          refine (HRr1.out y1 _ _ (HC.out _ HX).2.1 (HC.out _ HX).2.2).mono ?_
          rintro e y2 ⟨rfl, bc⟩
          have HX : Below wr.heap.size wr y2 := HX.trans (bc.mono HX.size)
          clear bc
          refine hK.out _ _ HX (fun _ => ?_)
          clear hK K
          try simp only [List.getElem_toArray, List.getElem_cons_succ, List.getElem_cons_zero, Act.put, List.setIfInBounds_toArray, List.set_cons_zero, List.set_cons_succ]
          refine wpAnyH_take (i := 7) (v := .bool true) rfl (by kernel_rfl) (by kernel_rfl) (by kernel_rfl) (fun _ _ _ h => h) (Or.inl ⟨by rfl, by intro w9 _; go_simp⟩) HX ?_
          simp only [List.getElem_toArray, List.getElem_cons_succ, List.getElem_cons_zero, Act.put, List.setIfInBounds_toArray, List.set_cons_zero, List.set_cons_succ]
          refine wpAnyH_take (i := 8) (v := .bool true) rfl (by kernel_rfl) (by kernel_rfl) (by kernel_rfl) (fun _ _ _ h => h) (Or.inl ⟨by rfl, by intro w9 _; go_simp⟩) HX ?_
          simp only [List.getElem_toArray, List.getElem_cons_succ, List.getElem_cons_zero, Act.put, List.setIfInBounds_toArray, List.set_cons_zero, List.set_cons_succ]
          refine wpAnyH_take (i := 9) (v := .pointer (some ⟨bf, 0, none⟩)) rfl (by kernel_rfl) (by kernel_rfl) (by kernel_rfl) (fun _ _ _ h => h) (Or.inl ⟨by rfl, by intro w9 _; go_simp⟩) HX ?_
          simp only [List.getElem_toArray, List.getElem_cons_succ, List.getElem_cons_zero, Act.put, List.setIfInBounds_toArray, List.set_cons_zero, List.set_cons_succ]
          refine wpAnyH_take (i := 11) (v := .pointer (some ⟨br, 0, none⟩)) rfl (by kernel_rfl) (by kernel_rfl) (by kernel_rfl) (fun _ _ _ h => h) (Or.inl ⟨by rfl, by intro w9 _; go_simp⟩) HX ?_
          simp only [List.getElem_toArray, List.getElem_cons_succ, List.getElem_cons_zero, Act.put, List.setIfInBounds_toArray, List.set_cons_zero, List.set_cons_succ]
          refine wpAnyH_ready (rs := [10]) (by kernel_rfl) (by simp) (AllReadyH.cons (by simp only [List.getElem?_toArray, List.getElem?_cons_succ, List.getElem?_cons_zero]; rfl) (fun K hK => ?_) AllReadyH.nil)
          refine step_want (by rfl) ?_
          go_simp
          refine (flen_any (HC.out _ HX).2.1.fr).mono ?_
          rintro e y2 ⟨rfl, rfl⟩
          refine hK.out _ _ HX (fun _ => ?_)
          clear hK K
          try simp only [List.getElem_toArray, List.getElem_cons_succ, List.getElem_cons_zero, Act.put, List.setIfInBounds_toArray, List.set_cons_zero, List.set_cons_succ]
          refine wpAnyH_ready (rs := [12]) (by kernel_rfl) (by simp) (AllReadyH.cons (by simp only [List.getElem?_toArray, List.getElem?_cons_succ, List.getElem?_cons_zero]; rfl) (fun K hK => ?_) AllReadyH.nil)
          refine step_want (by rfl) ?_
          go_simp
          refine (rlen_any (HC.out _ HX).2.1.rf (HC.out _ HX).2.1.fr.len.2.2).mono ?_
          rintro e y2 ⟨rfl, rfl⟩
          refine hK.out _ _ HX (fun _ => ?_)
          clear hK K
          try simp only [List.getElem_toArray, List.getElem_cons_succ, List.getElem_cons_zero, Act.put, List.setIfInBounds_toArray, List.set_cons_zero, List.set_cons_succ]
          refine wpAnyH_take (i := 13) (v := .bool true) rfl (by kernel_rfl) (by kernel_rfl) (by kernel_rfl) (fun _ _ _ h => h) (Or.inl ⟨by rfl, by intro w9 _; go_simp⟩) HX ?_
          simp only [List.getElem_toArray, List.getElem_cons_succ, List.getElem_cons_zero, Act.put, List.setIfInBounds_toArray, List.set_cons_zero, List.set_cons_succ]
          refine wpAnyH_take (i := 14) (v := .bool true) rfl (by kernel_rfl) (by kernel_rfl) (by kernel_rfl) (fun _ _ _ h => h) (Or.inl ⟨by rfl, by intro w9 _; go_simp⟩) HX ?_
          simp only [List.getElem_toArray, List.getElem_cons_succ, List.getElem_cons_zero, Act.put, List.setIfInBounds_toArray, List.set_cons_zero, List.set_cons_succ]
          refine wpAnyH_take (i := 15) (v := .bool true) rfl (by kernel_rfl) (by kernel_rfl) (by kernel_rfl) (fun _ _ _ h => h) (Or.inl ⟨by rfl, by intro w9 _; go_simp⟩) HX ?_
          simp only [List.getElem_toArray, List.getElem_cons_succ, List.getElem_cons_zero, Act.put, List.setIfInBounds_toArray, List.set_cons_zero, List.set_cons_succ]
          refine wpAnyH_take (i := 16) (v := .pointer (some ⟨bf, 0, none⟩)) rfl (by kernel_rfl) (by kernel_rfl) (by kernel_rfl) (fun _ _ _ h => h) (Or.inl ⟨by rfl, by intro w9 _; go_simp⟩) HX ?_
          simp only [List.getElem_toArray, List.getElem_cons_succ, List.getElem_cons_zero, Act.put, List.setIfInBounds_toArray, List.set_cons_zero, List.set_cons_succ]
          refine wpAnyH_take (i := 18) (v := .pointer (some ⟨br, 0, none⟩)) rfl (by kernel_rfl) (by kernel_rfl) (by kernel_rfl) (fun _ _ _ h => h) (Or.inl ⟨by rfl, by intro w9 _; go_simp⟩) HX ?_
          simp only [List.getElem_toArray, List.getElem_cons_succ, List.getElem_cons_zero, Act.put, List.setIfInBounds_toArray, List.set_cons_zero, List.set_cons_succ]
          refine wpAnyH_take (i := 19) (v := .pointer (some ⟨br, 0, none⟩)) rfl (by kernel_rfl) (by kernel_rfl) (by kernel_rfl) (fun _ _ _ h => h) (Or.inl ⟨by rfl, by intro w9 _; go_simp⟩) HX ?_
          simp only [List.getElem_toArray, List.getElem_cons_succ, List.getElem_cons_zero, Act.put, List.setIfInBounds_toArray, List.set_cons_zero, List.set_cons_succ]
          refine wpAnyH_take (i := 20) (v := .pointer (some ⟨br, 1, none⟩)) rfl (by kernel_rfl) (by kernel_rfl) (by kernel_rfl) (fun _ _ _ h => h) (Or.inl ⟨by rfl, by intro w9 _; go_simp⟩) HX ?_
          simp only [List.getElem_toArray, List.getElem_cons_succ, List.getElem_cons_zero, Act.put, List.setIfInBounds_toArray, List.set_cons_zero, List.set_cons_succ]
          refine wpAnyH_take (i := 21) (v := hw1) rfl (by kernel_rfl) (by kernel_rfl) (by kernel_rfl) (fun _ _ _ h => h) (Or.inl ⟨by rfl, by intro w9 h9; have c9 := (HC.out w9 h9).1; go_simp⟩) HX ?_
          simp only [List.getElem_toArray, List.getElem_cons_succ, List.getElem_cons_zero, Act.put, List.setIfInBounds_toArray, List.set_cons_zero, List.set_cons_succ]
          refine wpAnyH_ready (rs := [17]) (by kernel_rfl) (by simp) (AllReadyH.cons (by simp only [List.getElem?_toArray, List.getElem?_cons_succ, List.getElem?_cons_zero]; rfl) (fun K hK => ?_) AllReadyH.nil)
          refine step_want (by rfl) ?_
          go_simp
          refine (HHs.out y2 _ _ (HC.out _ HX).2.1).mono ?_
          rintro e y3 ⟨xa, xc, rfl, hM3⟩
          have HX : Below wr.heap.size wr y3 := HX.trans (hM3.below.mono HX.size)
          have HM3 : Hid (Mh y2 y2.heap.size (.slice xa p xc) _ y3) := hM3
          clear hM3
          refine hK.out _ _ HX (fun _ => ?_)
          clear hK K
          try simp only [List.getElem_toArray, List.getElem_cons_succ, List.getElem_cons_zero, Act.put, List.setIfInBounds_toArray, List.set_cons_zero, List.set_cons_succ]
          refine wpAnyH_ready (rs := [22]) (by kernel_rfl) (by simp) (AllReadyH.cons (by simp only [List.getElem?_toArray, List.getElem?_cons_succ, List.getElem?_cons_zero]; rfl) (fun K hK => ?_) AllReadyH.nil)
          refine step_want (by rfl) ?_
          go_simp
          refine (same_hs HM3.out.at_ (HC.out _ HX).2.1.rf.hsAt HLl.out).mono ?_
          rintro e y4 ⟨rfl, bc⟩
          have HX : Below wr.heap.size wr y4 := HX.trans (bc.mono HX.size)
          clear bc HM3
          refine hK.out _ _ HX (fun _ => ?_)
          clear hK K
          try simp only [List.getElem_toArray, List.getElem_cons_succ, List.getElem_cons_zero, Act.put, List.setIfInBounds_toArray, List.set_cons_zero, List.set_cons_succ]
          refine wpAnyH_take (i := 23) (v := .bool true) rfl (by kernel_rfl) (by kernel_rfl) (by kernel_rfl) (fun _ _ _ h => h) (Or.inl ⟨by rfl, by intro w9 _; go_simp⟩) HX ?_
          simp only [List.getElem_toArray, List.getElem_cons_succ, List.getElem_cons_zero, Act.put, List.setIfInBounds_toArray, List.set_cons_zero, List.set_cons_succ]
          refine wpAnyH_take (i := 24) (v := .bool true) rfl (by kernel_rfl) (by kernel_rfl) (by kernel_rfl) (fun _ _ _ h => h) (Or.inl ⟨by rfl, by intro w9 _; go_simp⟩) HX ?_
          simp only [List.getElem_toArray, List.getElem_cons_succ, List.getElem_cons_zero, Act.put, List.setIfInBounds_toArray, List.set_cons_zero, List.set_cons_succ]
          refine wpAnyH_take (i := 25) (v := .bool true) rfl (by kernel_rfl) (by kernel_rfl) (by kernel_rfl) (fun _ _ _ h => h) (Or.inl ⟨by rfl, by intro w9 _; go_simp⟩) HX ?_
          simp only [List.getElem_toArray, List.getElem_cons_succ, List.getElem_cons_zero, Act.put, List.setIfInBounds_toArray, List.set_cons_zero, List.set_cons_succ]
          refine wpAnyH_ready (rs := [26]) (by kernel_rfl) (by simp) (AllReadyH.cons (by simp only [List.getElem?_toArray, List.getElem?_cons_succ, List.getElem?_cons_zero]; rfl) (fun K hK => ?_) AllReadyH.nil)
          refine step_want (by rfl) ?_
          go_simp
          refine (HD.out y4 (HC.out _ HX).2.2).mono ?_
          rintro e y5 ⟨rfl, bc⟩
          have HX : Below wr.heap.size wr y5 := HX.trans (bc.mono HX.size)
          clear bc
          refine hK.out _ _ HX (fun _ => ?_)
          clear hK K
          try simp only [List.getElem_toArray, List.getElem_cons_succ, List.getElem_cons_zero, Act.put, List.setIfInBounds_toArray, List.set_cons_zero, List.set_cons_succ]
          refine wpAnyH_take (i := 27) (v := .bool true) rfl (by kernel_rfl) (by kernel_rfl) (by kernel_rfl) (fun _ _ _ h => h) (Or.inl ⟨by rfl, by intro w9 _; go_simp⟩) HX ?_
          simp only [List.getElem_toArray, List.getElem_cons_succ, List.getElem_cons_zero, Act.put, List.setIfInBounds_toArray, List.set_cons_zero, List.set_cons_succ]
          refine wpAnyH_take (i := 28) (v := .bool true) rfl (by kernel_rfl) (by kernel_rfl) (by kernel_rfl) (fun _ _ _ h => h) (Or.inl ⟨by rfl, by intro w9 _; go_simp⟩) HX ?_
          simp only [List.getElem_toArray, List.getElem_cons_succ, List.getElem_cons_zero, Act.put, List.setIfInBounds_toArray, List.set_cons_zero, List.set_cons_succ]
          refine wpAnyH_done (by kernel_rfl) ?_ _
          have HF : Hid (Below w.heap.size w y5) := (HC.out _ HX).2.2
          clear HX HC
          go_wp2
          go_ret
          exact ⟨rfl, HF.out⟩
end Go.Proofs.YtnhfadjlajljlaaDoor

namespace Go.Proofs.YtnhfadjlajljlaaDoor
open Go.RowKit

set_option maxRecDepth 100000 in
set_option maxHeartbeats 2000000 in
theorem play_law {w : World} {v1 v2 : Value} {L M : List (List UInt8)} (n : Int) (hL : HsAt w v1 L) (hM : HsAt w v2 M) (hF : TabF w) (hR : TabR w) (hn1 : n < 9223372036854775808) : Calls Tryd.prog 3 #[.int .i64 n, v1, v2] w fun e w' => e = .returned (.bool true) ∧ Below w.heap.size w w' := by
  by_cases hl : L.length ≤ 70
  · by_cases hm : M.length ≤ 40
    · by_cases hg : n < 0 ∨ pcN n.toNat ≠ L.length
      · exact play_bad n hL hM hF hn1 hl hm hg
      · have h0 : (0 : Int) ≤ n := Int.not_lt.1 fun h => hg (.inl h)
        have := play_good n.toNat hL hM ⟨hF, hR⟩ (by omega) hl hm (Decidable.not_not.1 fun h => hg (.inr h))
        rwa [Int.toNat_of_nonneg h0] at this
    · obtain ⟨a, c, rfl, -⟩ := id hL
      obtain ⟨a2, c2, rfl, -⟩ := id hM
      have d1 : decide ((70 : Int) < (L.length : Int)) = false := by rw [decide_eq_false_iff_not]; omega
      have d2 : decide ((40 : Int) < (M.length : Int)) = true := by rw [decide_eq_true_iff]; omega
      clear hL hM hF hR
      go_enter Tryd.func3, Tryd.ntmps3
      go_wp2
      go_ret
      exact ⟨rfl, Below.refl _ _⟩
  · obtain ⟨a, c, rfl, -⟩ := id hL
    obtain ⟨a2, c2, rfl, -⟩ := id hM
    have d1 : decide ((70 : Int) < (L.length : Int)) = true := by rw [decide_eq_true_iff]; omega
    clear hL hM hF hR
    go_enter Tryd.func3, Tryd.ntmps3
    go_wp2
    go_ret
    exact ⟨rfl, Below.refl _ _⟩
end Go.Proofs.YtnhfadjlajljlaaDoor
