/- The law RunsTell (layer 7). -/
import Derived.Test.YtbnfhhjgalphgaaZu
namespace Go.Proofs.Ytbnfhhjgalphgaa
open Go.RowKit

structure RA (w : World) (v : Value) (l : List Rn) : Prop where
  h : RunsAt w v l
theorem RA.below {w w' : World} {v : Value} {l : List Rn} (h : RA w v l) (b : Below w.heap.size w w') : RA w' v l := ⟨h.h.below b⟩
structure OR (B : Nat) (w : World) (a : Option Addr) (n : Nat) : Prop where
  h : OwnR B w a n
theorem OR.below {B : Nat} {w w' : World} {a : Option Addr} {n : Nat} (h : OR B w a n) (b : Below w.heap.size w w') : OR B w' a n := ⟨h.h.below b⟩
theorem new_size {C new : Array Value} {m : Nat} (hs : (m + 1) * 2 ≤ C.size) (h : (C.toList.take (m * 2) ++ (#[Value.int .i64 0, .int .i64 (-1)] : Array Value).toList ++ C.toList.drop (m * 2 + (#[Value.int .i64 0, .int .i64 (-1)] : Array Value).size)).toArray = new) : new.size = C.size := by
  rw [← h]
  simp only [List.size_toArray, List.length_append, List.length_take, List.length_drop, Array.length_toList]
  simp
  omega
set_option maxRecDepth 100000 in
set_option maxHeartbeats 4000000 in
set_option linter.unusedSimpArgs false in
theorem tell_walk {W : World} {v : Value} {l : List Rn} {n : Int} {x : Rn} (h : RunsAt W v l) (hf : fitR l) (hroom : ∀ a n c, v = .slice a n c → n ≤ c) (hn : -9223372036854775808 ≤ n ∧ n < 9223372036854775808)
    (hx1 : -9223372036854775808 ≤ x.s ∧ x.s < 9223372036854775808) (hx2 : -9223372036854775808 ≤ x.c ∧ x.c < 9223372036854775808) :
    Calls Try.prog 3 #[v, .int .i64 n, .agg #[.int .i64 x.s, .int .i64 x.c]] W fun e w' => e = .returned (.bool true) ∧ Below W.heap.size W w' := by
  obtain ⟨a, q, rfl, -⟩ := id h
  obtain ⟨w0, hw0, b0, hX⟩ := box_made W x.s x.c
  by_cases h2 : 200 < l.length
  · have h3 : (l.length : Int) > 200 := by omega
    have HB : Hid _ := b0
    clear h hf hroom hX b0
    go_enter Try.func3, Try.ntmps3
    go_wp2
    go_ret
    exact ⟨rfl, HB.out⟩
  have h3 : ¬ (l.length : Int) > 200 := by omega
  obtain ⟨xb, hxb⟩ : ∃ xb, W.heap.size = xb := ⟨_, rfl⟩
  have HW : Hid (BW W w0) := ⟨b0⟩
  have HX : Hid (Bx w0 xb x.s x.c) := by rw [← hxb]; exact hX
  have HS : Hid (RA w0 (.slice a l.length q) l) := ⟨h.below b0⟩
  obtain ⟨y, hy⟩ : ∃ y, (tkR (takeT l n)).s = y := ⟨_, rfl⟩
  obtain ⟨z, hz⟩ : ∃ z, (tkR (takeT l n)).c = z := ⟨_, rfl⟩
  obtain ⟨L, hL⟩ : ∃ L, tkL (takeT l n) = L := ⟨_, rfl⟩
  obtain ⟨bo, hbo⟩ : ∃ b, (takeT l n).isSome = b := ⟨_, rfl⟩
  obtain ⟨G, hG⟩ : ∃ G, gvL (giveT l x) = G := ⟨_, rfl⟩
  obtain ⟨bg, hbg⟩ : ∃ b, (giveT l x).isSome = b := ⟨_, rfl⟩
  obtain ⟨tt, htt⟩ : ∃ t, totL l = t := ⟨_, rfl⟩
  obtain ⟨ck, hck⟩ : ∃ b, chkB l = b := ⟨_, rfl⟩
  have hLl : L.length ≤ 1000 := by
    rw [← hL]
    cases ht : takeT l n with
    | none => simp [tkL]
    | some p => obtain ⟨x', m⟩ := p; have := take_len ht; show m.length ≤ _; omega
  have hGl : G.length ≤ 1000 := by
    rw [← hG]
    cases ht : giveT l x with
    | none => simp [gvL]
    | some m => have := give_len ht; show m.length ≤ _; omega
  have HTk : Hid (∀ (w : World) (g cap : Nat), Tw g cap l w → l.length + 1 ≤ cap → Calls Try.prog 10 #[.slice (some ⟨g, 0, none⟩) l.length cap, .int .i64 n] w fun e w' => ∃ a c, e = .returned (.tuple #[.agg #[.int .i64 y, .int .i64 z], .slice a L.length c, .bool bo]) ∧ RA w' (.slice a L.length c) L ∧ OR w.heap.size w' a L.length ∧ Below w.heap.size w w') := fun w g cap hT hc => by
    refine (take_any n hT.at_ (fun a n c e => by have := Value.slice.inj e; omega) hf (by omega) hn.1 hn.2).mono ?_
    intro e w' hh
    obtain ⟨a', c', he, h1, h4, h5⟩ := take_says hh
    rw [hL] at h1 h4
    exact ⟨a', c', by rw [he, hy, hz, hL, hbo], ⟨h1⟩, ⟨h4⟩, h5⟩
  have HRt : Hid (∀ (w : World), RA w (.slice a l.length q) l → Calls Try.prog 11 #[.slice a l.length q, .int .i64 n] w fun e w' => ∃ a c, e = .returned (.tuple #[.agg #[.int .i64 y, .int .i64 z], .slice a L.length c, .bool bo]) ∧ RA w' (.slice a L.length c) L ∧ Below w.heap.size w w') := fun w hT => by
    refine (rtake_any n hT.h hroom hf (by omega) hn.1 hn.2).mono ?_
    intro e w' hh
    obtain ⟨a', c', he, h1, h4, h5⟩ := take_says hh
    rw [hL] at h1
    exact ⟨a', c', by rw [he, hy, hz, hL, hbo], ⟨h1⟩, h5⟩
  have HGv : Hid (∀ (w : World) (g cap : Nat), Tw g cap l w → l.length + 1 ≤ cap → Calls Try.prog 12 #[.slice (some ⟨g, 0, none⟩) l.length cap, .agg #[.int .i64 x.s, .int .i64 x.c]] w fun e w' => ∃ a c, e = .returned (.tuple #[.slice a G.length c, .bool bg]) ∧ RA w' (.slice a G.length c) G ∧ OR w.heap.size w' a G.length ∧ Below w.heap.size w w') := fun w g cap hT hc => by
    refine (give_any x hT.at_ (.inr ⟨g, 0, _, cap, rfl, by omega⟩) hf (by omega) hx1 hx2).mono ?_
    intro e w' hh
    obtain ⟨a', c', he, h1, h4, h5⟩ := give_says hh
    rw [hG] at h1 h4
    exact ⟨a', c', by rw [he, hG, hbg], ⟨h1⟩, ⟨h4⟩, h5⟩
  have HRg : Hid (∀ (w : World), RA w (.slice a l.length q) l → Calls Try.prog 13 #[.slice a l.length q, .agg #[.int .i64 x.s, .int .i64 x.c]] w fun e w' => ∃ a c, e = .returned (.tuple #[.slice a G.length c, .bool bg]) ∧ RA w' (.slice a G.length c) G ∧ Below w.heap.size w w') := fun w hT => by
    refine (rgive_any x hT.h hf (by omega) hx1 hx2).mono ?_
    intro e w' hh
    obtain ⟨a', c', he, h1, h4, h5⟩ := give_says hh
    rw [hG] at h1
    exact ⟨a', c', by rw [he, hG, hbg], ⟨h1⟩, h5⟩
  have HTt : Hid (∀ (w : World) (v : Value), RunsAt w v l → Calls Try.prog 15 #[v] w fun e w' => e = .returned (.int .i64 tt) ∧ Below w.heap.size w w') := fun w v hT => by rw [← htt]; exact total_any hT hf (by omega)
  have HRtt : Hid (∀ (w : World) (v : Value), RunsAt w v l → Calls Try.prog 16 #[v] w fun e w' => e = .returned (.int .i64 tt) ∧ Below w.heap.size w w') := fun w v hT => by rw [← htt]; exact rtotal_any hT hf (by omega)
  have HCk : Hid (∀ (w : World) (v : Value), RunsAt w v l → Calls Try.prog 17 #[v] w fun e w' => e = .returned (.bool ck) ∧ Below w.heap.size w w') := fun w v hT => by rw [← hck]; exact check_any hT hf (by omega)
  have HRck : Hid (∀ (w : World) (v : Value), RunsAt w v l → Calls Try.prog 18 #[v] w fun e w' => e = .returned (.bool ck) ∧ Below w.heap.size w w') := fun w v hT => by rw [← hck]; exact rcheck_any hT hf (by omega)
  have HSm : Hid (∀ (w : World) (v1 v2 : Value) (M : List Rn), RA w v1 M → RA w v2 M → M.length ≤ 1000 → Calls Try.prog 14 #[v1, v2] w fun e w' => e = .returned (.bool true) ∧ Below w.heap.size w w') := fun w v1 v2 M k1 k2 hm => by
    have := same_any k1.h k2.h (by omega)
    rwa [sameB_iff.2 rfl] at this
  clear h hf hroom hX b0 hn hx1 hx2 hy hz hL hbo hG hbg htt hck
  obtain ⟨xs, xc⟩ := x
  simp only at hw0 HX HGv HRg
  simp only
  go_enter Try.func3, Try.ntmps3
  go_wp2_with fail
  refine (twin_any HS.out.h (by omega)).mono ?_
  rintro e w1 ⟨g, cap, rfl, hcap, hT, b⟩
  have HT : Hid (Tw g cap l w1) := hT
  clear hT hw0 hxb
  have HW : Hid _ := HW.out.below b
  have HX : Hid _ := HX.out.below b
  have HS : Hid _ := HS.out.below b
  clear b
  have HTw : Hid (Tw g cap l w1) := HT
  have HSw : Hid (RA w1 (.slice a l.length q) l) := HS
  have HWw : Hid (BW W w1) := HW
  have HBT : Hid (BW w1 w1) := ⟨Below.refl _ _⟩
  clear HW
  go_wp2_with fail
  refine (HTk.out w1 g cap HT.out hcap).mono ?_
  rintro e w2 ⟨ra, rc, rfl, hR, hO, b⟩
  have HR : Hid _ := hR
  have HO : Hid (OR w1.heap.size w2 ra L.length) := hO
  clear hR hO HTk
  have HX : Hid _ := HX.out.below b
  have HS : Hid _ := HS.out.below b
  have HT : Hid _ := HT.out.below b
  have HBT : Hid _ := HBT.out.below b
  clear b
  obtain ⟨w2x, hw2x, b, HAh⟩ := box_made w2 y z
  obtain ⟨rb, hrb⟩ : ∃ rb, w2.heap.size = rb := ⟨_, rfl⟩
  rw [hrb] at HAh
  have HX : Hid _ := HX.out.below b
  have HS : Hid _ := HS.out.below b
  have HT : Hid _ := HT.out.below b
  have HBT : Hid _ := HBT.out.below b
  have HR : Hid _ := HR.out.below b
  have HO : Hid _ := HO.out.below b
  clear b
  have HA : Hid _ := HAh
  clear HAh
  go_wp2_with fail
  clear hw2x hrb
  refine (HRt.out w2x HS.out).mono ?_
  rintro e w3 ⟨sa, sc, rfl, hR, b⟩
  have HR2 : Hid _ := hR
  clear hR HRt
  have HX : Hid _ := HX.out.below b
  have HS : Hid _ := HS.out.below b
  have HT : Hid _ := HT.out.below b
  have HBT : Hid _ := HBT.out.below b
  have HR : Hid _ := HR.out.below b
  have HO : Hid _ := HO.out.below b
  have HA : Hid _ := HA.out.below b
  clear b
  obtain ⟨w3x, hw3x, b, HBh⟩ := box_made w3 y z
  obtain ⟨sb, hsb⟩ : ∃ sb, w3.heap.size = sb := ⟨_, rfl⟩
  rw [hsb] at HBh
  have HX : Hid _ := HX.out.below b
  have HS : Hid _ := HS.out.below b
  have HT : Hid _ := HT.out.below b
  have HBT : Hid _ := HBT.out.below b
  have HR : Hid _ := HR.out.below b
  have HO : Hid _ := HO.out.below b
  have HA : Hid _ := HA.out.below b
  have HR2 : Hid _ := HR2.out.below b
  clear b
  have HB : Hid _ := HBh
  clear HBh
  have hXo := HX.out.h
  go_wp2_with (first | (refine load_box rfl (.tmp 5) rfl xb xs xc (0, 0) rfl hXo ?_) | fail)
  clear hw3x hsb
  have hsz : w1.heap.size ≤ w3x.heap.size := HBT.out.h.size
  refine (HGv.out w3x g cap HT.out hcap).mono ?_
  rintro e w4 ⟨xa, xcc, rfl, hR, hO, b⟩
  have HG : Hid _ := hR
  have HP : Hid (OR w1.heap.size w4 xa G.length) := ⟨hO.h.mono hsz⟩
  clear hR hO hXo HGv hsz
  have HX : Hid _ := HX.out.below b
  have HS : Hid _ := HS.out.below b
  have HT : Hid _ := HT.out.below b
  have HBT : Hid _ := HBT.out.below b
  have HR : Hid _ := HR.out.below b
  have HO : Hid _ := HO.out.below b
  have HA : Hid _ := HA.out.below b
  have HR2 : Hid _ := HR2.out.below b
  have HB : Hid _ := HB.out.below b
  clear b
  have hXo := HX.out.h
  go_wp2_with (first | (refine load_box rfl (.tmp 5) rfl xb xs xc (0, 0) rfl hXo ?_) | fail)
  refine (HRg.out w4 HS.out).mono ?_
  rintro e w5 ⟨za, zc, rfl, hR, b⟩
  have HG2 : Hid _ := hR
  clear hR hXo HRg
  have HX : Hid _ := HX.out.below b
  have HS : Hid _ := HS.out.below b
  have HT : Hid _ := HT.out.below b
  have HBT : Hid _ := HBT.out.below b
  have HR : Hid _ := HR.out.below b
  have HO : Hid _ := HO.out.below b
  have HA : Hid _ := HA.out.below b
  have HR2 : Hid _ := HR2.out.below b
  have HB : Hid _ := HB.out.below b
  have HG : Hid _ := HG.out.below b
  have HP : Hid _ := HP.out.below b
  clear b
  have hAo := HA.out.h
  have hBo := HB.out.h
  go_wp2_with (first | (refine load_box rfl (.tmp 8) rfl rb y z (0, 0) rfl hAo ?_) | (refine load_box rfl (.tmp 11) rfl sb y z (0, 0) rfl hBo ?_) | fail)
  refine (HSm.out _ _ _ _ HR.out HR2.out hLl).mono ?_
  rintro e w6 ⟨rfl, b⟩
  clear hAo hBo
  have HX : Hid _ := HX.out.below b
  have HS : Hid _ := HS.out.below b
  have HT : Hid _ := HT.out.below b
  have HBT : Hid _ := HBT.out.below b
  have HR : Hid _ := HR.out.below b
  have HO : Hid _ := HO.out.below b
  have HA : Hid _ := HA.out.below b
  have HR2 : Hid _ := HR2.out.below b
  have HB : Hid _ := HB.out.below b
  have HG : Hid _ := HG.out.below b
  have HP : Hid _ := HP.out.below b
  have HG2 : Hid _ := HG2.out.below b
  clear b
  go_wp2_with fail
  refine (HSm.out _ _ _ _ HG.out HG2.out hGl).mono ?_
  rintro e w7 ⟨rfl, b⟩
  have HX : Hid _ := HX.out.below b
  have HS : Hid _ := HS.out.below b
  have HT : Hid _ := HT.out.below b
  have HBT : Hid _ := HBT.out.below b
  have HR : Hid _ := HR.out.below b
  have HO : Hid _ := HO.out.below b
  have HA : Hid _ := HA.out.below b
  have HR2 : Hid _ := HR2.out.below b
  have HB : Hid _ := HB.out.below b
  have HG : Hid _ := HG.out.below b
  have HP : Hid _ := HP.out.below b
  have HG2 : Hid _ := HG2.out.below b
  clear b
  go_wp2_with fail
  refine (HTt.out _ _ HT.out.at_).mono ?_
  rintro e w8 ⟨rfl, b⟩
  have HX : Hid _ := HX.out.below b
  have HS : Hid _ := HS.out.below b
  have HT : Hid _ := HT.out.below b
  have HBT : Hid _ := HBT.out.below b
  have HR : Hid _ := HR.out.below b
  have HO : Hid _ := HO.out.below b
  have HA : Hid _ := HA.out.below b
  have HR2 : Hid _ := HR2.out.below b
  have HB : Hid _ := HB.out.below b
  have HG : Hid _ := HG.out.below b
  have HP : Hid _ := HP.out.below b
  have HG2 : Hid _ := HG2.out.below b
  clear b
  go_wp2_with fail
  refine (HRtt.out _ _ HS.out.h).mono ?_
  rintro e w9 ⟨rfl, b⟩
  have HX : Hid _ := HX.out.below b
  have HS : Hid _ := HS.out.below b
  have HT : Hid _ := HT.out.below b
  have HBT : Hid _ := HBT.out.below b
  have HR : Hid _ := HR.out.below b
  have HO : Hid _ := HO.out.below b
  have HA : Hid _ := HA.out.below b
  have HR2 : Hid _ := HR2.out.below b
  have HB : Hid _ := HB.out.below b
  have HG : Hid _ := HG.out.below b
  have HP : Hid _ := HP.out.below b
  have HG2 : Hid _ := HG2.out.below b
  clear b
  go_wp2_with fail
  refine (HCk.out _ _ HT.out.at_).mono ?_
  rintro e w10 ⟨rfl, b⟩
  have HX : Hid _ := HX.out.below b
  have HS : Hid _ := HS.out.below b
  have HT : Hid _ := HT.out.below b
  have HBT : Hid _ := HBT.out.below b
  have HR : Hid _ := HR.out.below b
  have HO : Hid _ := HO.out.below b
  have HA : Hid _ := HA.out.below b
  have HR2 : Hid _ := HR2.out.below b
  have HB : Hid _ := HB.out.below b
  have HG : Hid _ := HG.out.below b
  have HP : Hid _ := HP.out.below b
  have HG2 : Hid _ := HG2.out.below b
  clear b
  go_wp2_with fail
  refine (HRck.out _ _ HS.out.h).mono ?_
  rintro e w11 ⟨rfl, b⟩
  have HX : Hid _ := HX.out.below b
  have HS : Hid _ := HS.out.below b
  have HT : Hid _ := HT.out.below b
  have HBT : Hid _ := HBT.out.below b
  have HR : Hid _ := HR.out.below b
  have HO : Hid _ := HO.out.below b
  have HA : Hid _ := HA.out.below b
  have HR2 : Hid _ := HR2.out.below b
  have HB : Hid _ := HB.out.below b
  have HG : Hid _ := HG.out.below b
  have HP : Hid _ := HP.out.below b
  have HG2 : Hid _ := HG2.out.below b
  clear b
  clear HTt HRtt HCk HRck HSm HR HR2 HG HG2 HA HB HX HS HT
  go_wp2
  go_loopw [18] (fun iv wr => ∃ m : Nat, m ≤ L.length ∧ iv = .int .i64 m ∧ BW w1 wr ∧ OR w1.heap.size wr ra L.length ∧ OR w1.heap.size wr xa G.length) (fun iv _ => L.length - (intOf iv).toNat)
  case atStart => exact ⟨0, Nat.zero_le _, rfl, HBT.out, HO.out, HP.out⟩
  case round =>
    obtain ⟨m, hm, rfl, hB, hO, hP⟩ := hrel
    clear HBT HO HP
    by_cases hlt : m < L.length
    · rcases hO.h with h0 | ⟨g2, C, rfl, hge, hg, hsz⟩
      · omega
      obtain ⟨new, hnew⟩ : ∃ new, (C.toList.take (m * 2) ++ (#[Value.int .i64 0, .int .i64 (-1)] : Array Value).toList ++ C.toList.drop (m * 2 + (#[Value.int .i64 0, .int .i64 (-1)] : Array Value).size)).toArray = new := ⟨_, rfl⟩
      have hns := new_size (by omega) hnew
      have hfit : m * 2 + (#[Value.int .i64 0, .int .i64 (-1)] : Array Value).size ≤ C.size := by show m * 2 + 2 ≤ _; omega
      have HB : Hid (BW w1 (wr.setRow g2 new)) := ⟨below_setRow hB.h hge new⟩
      have HO : Hid (OR w1.heap.size (wr.setRow g2 new) (some ⟨g2, 0, none⟩) L.length) := ⟨hO.h.turn hg hns⟩
      have HP : Hid (OR w1.heap.size (wr.setRow g2 new) xa G.length) := ⟨hP.h.turn hg hns⟩
      have hlt2 : (m : Int) < (L.length : Int) := by omega
      have hnw : Hid _ := hnew
      have hft : Hid _ := hfit
      clear hB hO hP hsz hns hnew hfit
      go_wp2_with (first | (refine store_midR rfl 24 (.tmp 99) (.tmp 98) rfl g2 (m * 2) #[.int .i64 0, .int .i64 (-1)] C new 24 rfl rfl hg hft.out (run_size _ _) (run_one _ _) hnw.out ?_) | fail)
      go_roundw
      case rel => exact ⟨m + 1, by omega, by go_num, HB.out, HO.out, HP.out⟩
      case measure => simp [intOf]; omega
    obtain rfl : m = L.length := by omega
    have hlt2 : ¬ ((L.length : Nat) : Int) < (L.length : Int) := by omega
    have HBT : Hid (BW w1 wr) := hB
    have HO : Hid (OR w1.heap.size wr ra L.length) := hO
    have HP : Hid (OR w1.heap.size wr xa G.length) := hP
    clear hB hO hP hlt
    generalize hwz : wr = wz at *
    clear hwz
    go_wp2
    go_loopw [19] (fun iv wr => ∃ m : Nat, m ≤ G.length ∧ iv = .int .i64 m ∧ BW w1 wr ∧ OR w1.heap.size wr ra L.length ∧ OR w1.heap.size wr xa G.length) (fun iv _ => G.length - (intOf iv).toNat)
    case atStart => exact ⟨0, Nat.zero_le _, rfl, HBT.out, HO.out, HP.out⟩
    case round =>
      obtain ⟨m, hm, rfl, hB, hO, hP⟩ := hrel
      clear HBT HO HP
      by_cases hlt : m < G.length
      · rcases hP.h with h0 | ⟨g2, C, rfl, hge, hg, hsz⟩
        · omega
        obtain ⟨new, hnew⟩ : ∃ new, (C.toList.take (m * 2) ++ (#[Value.int .i64 0, .int .i64 (-1)] : Array Value).toList ++ C.toList.drop (m * 2 + (#[Value.int .i64 0, .int .i64 (-1)] : Array Value).size)).toArray = new := ⟨_, rfl⟩
        have hns := new_size (by omega) hnew
        have hfit : m * 2 + (#[Value.int .i64 0, .int .i64 (-1)] : Array Value).size ≤ C.size := by show m * 2 + 2 ≤ _; omega
        have HB : Hid (BW w1 (wr.setRow g2 new)) := ⟨below_setRow hB.h hge new⟩
        have HO : Hid (OR w1.heap.size (wr.setRow g2 new) ra L.length) := ⟨hO.h.turn hg hns⟩
        have HP : Hid (OR w1.heap.size (wr.setRow g2 new) (some ⟨g2, 0, none⟩) G.length) := ⟨hP.h.turn hg hns⟩
        have hlt2 : (m : Int) < (G.length : Int) := by omega
        have hnw : Hid _ := hnew
        have hft : Hid _ := hfit
        clear hB hO hP hsz hns hnew hfit
        go_wp2_with (first | (refine store_midR rfl 24 (.tmp 109) (.tmp 108) rfl g2 (m * 2) #[.int .i64 0, .int .i64 (-1)] C new 24 rfl rfl hg hft.out (run_size _ _) (run_one _ _) hnw.out ?_) | fail)
        go_roundw
        case rel => exact ⟨m + 1, by omega, by go_num, HB.out, HO.out, HP.out⟩
        case measure => simp [intOf]; omega
      obtain rfl : m = G.length := by omega
      have hlt2 : ¬ ((G.length : Nat) : Int) < (G.length : Int) := by omega
      have HBT : Hid (BW w1 wr) := hB
      have HO : Hid (OR w1.heap.size wr ra L.length) := hO
      have HP : Hid (OR w1.heap.size wr xa G.length) := hP
      clear hB hO hP hlt
      have HTz : Hid (Tw g cap l wr) := HTw.out.below HBT.out.h
      have HSz : Hid (RA wr (.slice a l.length q) l) := HSw.out.below HBT.out.h
      have HW : Hid (BW W wr) := HWw.out.below HBT.out.h
      clear HO HP HTw HSw HWw HBT
      go_wp2_with fail
      refine (left_any HTz.out HSz.out.h hcap (by omega)).mono ?_
      rintro e wa ⟨rfl, b⟩
      have HW : Hid _ := HW.out.below b
      clear b HTz HSz
      go_wp2_with fail
      refine (does_any wa).mono ?_
      rintro e wb ⟨rfl, b⟩
      have HW : Hid _ := HW.out.below b
      clear b
      go_wp2
      go_ret
      exact ⟨rfl, HW.out.h⟩
end Go.Proofs.Ytbnfhhjgalphgaa
