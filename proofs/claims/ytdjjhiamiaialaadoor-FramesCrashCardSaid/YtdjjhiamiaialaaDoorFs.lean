/- The law FramesCrash: what a crash leaves of a frame that is being written is that frame, or none; none, if the block is blank. -/
import Derived.Test.YtdjjhiamiaialaaDoorFr
import Derived.Test.YtdjjhiamiaialaaDoorFj
import Derived.Deep.DeepCutAuto
import Derived.Deep.QuietTactic
namespace Go.Proofs.YtdjjhiamiaialaaDoor
open Go.RowKit

theorem tmod_null (n : Int) : n.tmod 16 = 0 ↔ n % 16 = 0 := by
  constructor
  · intro h
    have := Int.dvd_of_tmod_eq_zero h
    omega
  · intro h
    exact Int.tmod_eq_zero_of_dvd (by omega)
theorem ints_1 {w : World} (n : Int) (o : Obj) (ho : o = .cells #[.int .i64 n] 3) : IntsAt (w.alloc o) (.slice (some ⟨w.heap.size, 0, none⟩) 1 1) [n] := by
  subst ho
  refine ⟨_, _, rfl, fun i x hi => ⟨w.heap.size, 0, rfl, ?_⟩⟩
  have hi0 : i = 0 := by have := (List.getElem?_eq_some_iff.1 hi).1; simpa using this
  subst hi0
  have e : n = x := by simpa using hi
  subst e
  rw [cell_of_row _ _ _ _ _ _ (heap_alloc_last w _)]
  rfl
theorem TS.alloc {w : World} {B : Nat} {k e i : Int} {D : ByteArray} {w1 : World} (h : TS w B k e i D w1) (o : Obj) : TS w B k e i D (w1.alloc o) := h.next ((Below.refl _ _).alloc (Nat.le_refl _) _)
theorem TS.again {w : World} {B : Nat} {k e i : Int} {D : ByteArray} {w1 : World} (h : TS w B k e i D w1) (k' e' i' : Int) (D' : ByteArray) (t : TypeId) : TS w w1.heap.size k' e' i' D' (w1.alloc (.cells #[.int .u8 k', .int .i64 e', .int .i64 i', .string D'] t)) := TS.start2 h.tab h.tab4 h.below
set_option maxRecDepth 100000 in
set_option maxHeartbeats 4000000 in
theorem fcrash_any (f : Fr) (n : Int) (w : World) (hT : Tab w) (hT4 : Tab4 w) :
    Calls Tryd.prog 3 #[frV f, .int .i64 n] w fun e w' => e = .returned (.bool true) ∧ Below w.heap.size w w' := by
  have HDo : Hid (∀ w : World, Tab w → Tab4 w → Calls Tryd.prog 5 #[] w fun e w' => e = .returned (.bool true) ∧ Below w.heap.size w w') := fun w h h4 => fdoes_any w h h4
  have HE1 : Hid (∀ w : World, Tab w → Tab4 w → Calls Tryd.prog 4 #[frV f] w fun e w' => e = .returned (.tuple #[.string (S (encL f)), .int .i64 (encE f)]) ∧ Below w.heap.size w w') := fun w h h4 => encode_any f w h h4
  have hC : ((encE f == 0) = false ∧ ¬ encE f = 0) ∨ (encE f = 0 ∧ (encL f).length = 128 ∧ ((n % 16 = 0) ∨ (¬ n % 16 = 0 ∧ txt (tornB (ofT (encL f)) n) = encL f ∧ Hid (∀ w : World, Tab w → Tab4 w → Calls Tryd.prog 11 #[.string (S (encL f))] w fun e w' => e = .returned (.tuple #[frV f, .int .i64 0]) ∧ Below w.heap.size w w')) ∨ (¬ n % 16 = 0 ∧ Hid (∀ w : World, Tab w → Tab4 w → Calls Tryd.prog 11 #[.string (S (txt (tornB (ofT (encL f)) n)))] w fun e w' => e = .returned (.tuple #[.agg #[.int .u8 0, .int .i64 0, .int .i64 0, .string ⟨#[]⟩], .int .i64 10]) ∧ Below w.heap.size w w') ∧ Hid (∀ w : World, Calls Tryd.prog 12 #[.string (S (txt (tornB (ofT (encL f)) n)))] w fun e w' => e = .returned (.bool true) ∧ Below w.heap.size w w')))) := by
    by_cases h1 : encE f = 0
    · have hl := encL_length h1
      refine .inr ⟨h1, hl, ?_⟩
      by_cases h0 : n % 16 = 0
      · exact .inl h0
      by_cases h15 : n % 16 = 15
      · refine .inr (.inl ⟨h0, torn_whole _ hl n h15, fun w h h4 => ?_⟩)
        have := decode_any (encL f) w h h4
        rw [(dec_enc h1).2, decE_ok.2 (dec_enc h1).1] at this
        exact this
      · have ht := torn_lack (encL f) hl n h15
        refine .inr (.inr ⟨h0, fun w h h4 => ?_, fun w => ?_⟩)
        · have := decode_any (txt (tornB (ofT (encL f)) n)) w h h4
          rw [(dec_no (torn_none ht)).1, (dec_no (torn_none ht)).2] at this
          exact this
        · have := lack_any (txt (tornB (ofT (encL f)) n)) w
          rwa [ht] at this
    · exact .inl ⟨by simpa using h1, h1⟩
  obtain ⟨k, ep, i, d⟩ := f
  have HX := TS.start (k := k) (e := ep) (i := i) (D := S d) (t := 23) hT hT4
  rw [show frV ⟨k, ep, i, d⟩ = .agg #[.int .u8 k, .int .i64 ep, .int .i64 i, .string (S d)] from rfl] at *
  generalize encE ⟨k, ep, i, d⟩ = M at *
  generalize encL ⟨k, ep, i, d⟩ = L at *
  generalize S d = D at *
  have HC : Hid _ := hC
  clear hC hT hT4
  go_enter Tryd.func3, Tryd.ntmps3
  go_wp2_with fail
  refine (HE1.out _ HX.tab HX.tab4).mono ?_
  rintro e' w1 ⟨rfl, b1⟩
  have HX := HX.next b1
  clear b1
  rcases HC.out with ⟨hM, hM2⟩ | ⟨hM, hL, hCC⟩
  · clear HC
    go_wp2_with fail
    refine (HDo.out _ HX.tab HX.tab4).mono ?_
    rintro e' w3 ⟨rfl, b3⟩
    have HB := (HX.next b3).below
    clear b3 HX
    go_wp2
    go_ret
    exact ⟨rfl, HB⟩
  subst hM
  have HCC : Hid _ := hCC
  have HL : Hid (L.length = 128) := hL
  clear HC hCC hL
  go_wp2_with fail
  refine (one_new 4 (by omega) (by omega) w1).mono ?_
  rintro e' w2 ⟨p, rfl, o2⟩
  have HW : Hid (∀ (O : Nat → Prop) (wr : World), One w1 p (newD 4) O wr → Calls Tryd.prog 7 #[.pointer (some ⟨p, 0, none⟩), .int .i64 2, .string (S L)] wr fun e w' => e = .returned (.int .i64 0) ∧ One w1 p (cw L) (grow O wr w') w') := fun O wr h => by
    have := one_write h 2 L (by simp [newD])
    rw [show (writeD (newD 4) 2 L).1 = 0 by rw [cw_eq L HL.out]] at this
    exact this
  have HCr : Hid (∀ (O : Nat → Prop) (wr : World), One w1 p (cw L) O wr → Calls Tryd.prog 8 #[.pointer (some ⟨p, 0, none⟩), .slice (some ⟨wr.heap.size, 0, none⟩) 1 1] (wr.alloc (.cells #[.int .i64 n] 3)) fun e w' => e = .returned (.int .i64 0) ∧ One w1 p (cc L n) O w') := fun O wr h => by
    have h2 := h.next ((Below.refl _ _).alloc (Nat.le_refl _) (.cells #[.int .i64 n] 3))
    have := one_crash h2 (ints_1 (w := wr) n _ rfl) (fun _ j hj _ ho => by
      have hlt := h.hi j ho
      have e : j = wr.heap.size := by simpa [Value.ownBlock] using hj.symm
      omega)
    rw [show (crashE (cw L) [n]).1 = 0 by rw [cc_eq L n HL.out]] at this
    exact this
  have HSt : Hid (∀ (O : Nat → Prop) (wr : World), One w1 p (cc L n) O wr → Calls Tryd.prog 9 #[.pointer (some ⟨p, 0, none⟩)] wr fun e w' => e = .returned (.int .i64 0) ∧ One w1 p (cs L n) O w') := fun O wr h => by
    have := one_start h (by
      unfold cc
      rw [cc_eq L n HL.out]; simp [crashD, actD, newD])
    rw [cs_eq L n HL.out] at this
    exact this
  have HRd : Hid (∀ (O : Nat → Prop) (wr : World), One w1 p (cs L n) O wr → Calls Tryd.prog 10 #[.pointer (some ⟨p, 0, none⟩), .int .i64 2] wr fun e w' => e = .returned (.tuple #[.string (S (if n % 16 = 0 then [] else txt (tornB (ofT L) n))), .int .i64 (if n % 16 = 0 then 41 else 0)]) ∧ w' = wr) := fun O wr h => by
    have := read_dev h.dev 2
    rw [cr_eq L n HL.out] at this
    by_cases h0 : n % 16 = 0
    · rw [if_pos h0] at this; rw [if_pos h0, if_pos h0]; exact this
    · rw [if_neg h0] at this; rw [if_neg h0, if_neg h0]; exact this
  have O2 : Hid _ := o2
  clear o2
  go_wp2_with fail
  refine (HW.out _ _ O2.out).mono ?_
  rintro e' w3 ⟨rfl, o3⟩
  have O3 : Hid _ := o3
  clear o3 O2 HW
  go_wp2_with fail
  refine (HCr.out _ _ O3.out).mono ?_
  rintro e' w4 ⟨rfl, o4⟩
  have O4 : Hid _ := o4
  clear o4 O3 HCr
  go_wp2_with fail
  refine (HSt.out _ _ O4.out).mono ?_
  rintro e' w5 ⟨rfl, o5⟩
  have O5 : Hid _ := o5
  clear o5 O4 HSt
  go_wp2_with fail
  refine (HRd.out _ _ O5.out).mono ?_
  rintro e' w6 ⟨rfl, rfl⟩
  have HX := HX.next O5.out.below
  clear O5 HRd
  rcases HCC.out with h0 | ⟨h0, hw, HD⟩ | ⟨h0, HD, HT⟩
  · clear HCC
    rw [if_pos h0, if_pos h0]
    have ht : n.tmod 16 = 0 := (tmod_null n).2 h0
    clear h0
    go_wp2_with fail
    refine (HDo.out _ HX.tab HX.tab4).mono ?_
    rintro e' w7 ⟨rfl, b7⟩
    have HB := (HX.next b7).below
    clear b7 HX
    go_wp2
    go_ret
    exact ⟨rfl, HB⟩
  · clear HCC
    rw [if_neg h0, if_neg h0, hw]
    have ht : ¬ n.tmod 16 = 0 := fun h => h0 ((tmod_null n).1 h)
    have ht2 : (n.tmod 16 == 0) = false := by simpa using ht
    clear h0 hw HL
    generalize S L = A at *
    go_wp2_with fail
    refine (HD.out _ HX.tab HX.tab4).mono ?_
    rintro e' w7 ⟨rfl, b7⟩
    have HX := HX.next b7
    have HY := HX.again k ep i D 23
    have HX := HX.alloc (.cells #[.int .u8 k, .int .i64 ep, .int .i64 i, .string D] 23)
    clear b7
    go_upto_region 11 with fail
    generalize w7.heap.size = B7 at *
    generalize w7.alloc _ = W7 at *
    have a0 := HX.c0
    have a1 := HX.c1
    have a2 := HX.c2
    have a3 := HX.c3
    have c0 := HY.c0
    have c1 := HY.c1
    have c2 := HY.c2
    have c3 := HY.c3
    go_wp2_with fail
    refine (HDo.out _ HX.tab HX.tab4).mono ?_
    rintro e' w8 ⟨rfl, b8⟩
    have HB := (HX.next b8).below
    clear b8 HX HY a0 a1 a2 a3 c0 c1 c2 c3
    go_wp2
    go_ret
    exact ⟨ret_bool (by rw [bne, ht2]; rfl), HB⟩
  · clear HCC
    rw [if_neg h0, if_neg h0]
    have ht : ¬ n.tmod 16 = 0 := fun h => h0 ((tmod_null n).1 h)
    have ht2 : (n.tmod 16 == 0) = false := by simpa using ht
    clear h0 HL
    generalize S (txt (tornB (ofT L) n)) = A at *
    generalize S L = A2 at *
    go_wp2_with fail
    refine (HD.out _ HX.tab HX.tab4).mono ?_
    rintro e' w7 ⟨rfl, b7⟩
    have HX := (HX.next b7).alloc (.cells #[.int .u8 0, .int .i64 0, .int .i64 0, .string ⟨#[]⟩] 23)
    clear b7
    go_wp2_with fail
    refine (HT.out _).mono ?_
    rintro e' w8 ⟨rfl, b8⟩
    have HX := HX.next b8
    clear b8
    go_wp2_with fail
    refine (HDo.out _ HX.tab HX.tab4).mono ?_
    rintro e' w9 ⟨rfl, b9⟩
    have HB := (HX.next b9).below
    clear b9 HX
    go_wp2
    go_ret
    exact ⟨ret_bool (by rw [bne, ht2]; rfl), HB⟩
end Go.Proofs.YtdjjhiamiaialaaDoor
