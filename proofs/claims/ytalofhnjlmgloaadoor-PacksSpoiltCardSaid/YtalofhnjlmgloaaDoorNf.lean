/- packs.Join. -/
import Derived.Test.YtalofhnjlmgloaaDoorNa
import Derived.Test.YtalofhnjlmgloaaDoorNe
import Derived.Test.YtalofhnjlmgloaaDoorFj0
import Derived.Deep.DeepCutAuto
import Derived.BigQuiet
import Derived.Deep.QuietTactic
namespace Go.Proofs.YtalofhnjlmgloaaDoor
open Go.RowKit

theorem ownsF_below {w w' : World} {B : Nat} {e : TypeId} {s n : Nat} {v : Value} {xs : List Value} (h : w.ownsRowF B e s v n xs) (hb : Below w.heap.size w w') : w'.ownsRowF B e s v n xs := by
  refine ⟨h.1, ?_⟩
  rcases h.2 with q | ⟨g, cap, cur, fz, q1, q2, q3, q4⟩
  · exact .inl q
  · exact .inr ⟨g, cap, cur, fz, q1, q2, (hb.block _ (Array.getElem?_eq_some_iff.1 q3).1).trans q3, q4⟩
theorem builderF_below {w w' : World} {T e : TypeId} {B b : Nat} {p : Value} {bs : List Value} (h : Lib.BuilderAtF T e B b p bs w) (hb : Below w.heap.size w w') : Lib.BuilderAtF T e B b p bs w' := by
  obtain ⟨hB, v, h1, h2, h3⟩ := h
  exact ⟨hB, v, (hb.block _ (Array.getElem?_eq_some_iff.1 h1).1).trans h1, ownsF_below h2 hb, h3⟩
theorem IsB.next {w w' : World} {B b : Nat} {l : List UInt8} (h : IsB B b l w) (hb : Below w.heap.size w w') : IsB B b l w' := by
  rcases h with h | h
  · exact .inl (builderF_below h hb)
  · exact .inr (builderF_below h hb)
/-- A builder of the call's own, w the world that it came into. -/
structure Jn (w : World) (l : List UInt8) (wr : World) : Prop where
  bl : IsB w.heap.size w.heap.size l wr
  below : Below w.heap.size w wr
theorem Jn.next {w wr w' : World} {l : List UInt8} (h : Jn w l wr) (hb : Below wr.heap.size wr w') : Jn w l w' := ⟨h.bl.next hb, h.below.trans (hb.mono h.below.size)⟩
theorem Jn.start (w : World) : Jn w [] (w.alloc (.cells #[.pointer none, .slice none 0 0] 56)) := ⟨Lib.IsBuilderF.of (Lib.fresh_isBuilder _ _ _), (Below.refl _ _).alloc (Nat.le_refl _) _⟩
theorem jn_len {w wr : World} {l : List UInt8} (h : Jn w l wr) : Calls Tryd.prog 24 #[.pointer (some ⟨w.heap.size, 0, none⟩)] wr fun e w' => e = .returned (.int .i64 l.length) ∧ w' = wr := builder_len _ _ _ _ h.bl
theorem jn_write {w wr : World} {l : List UInt8} (s : List UInt8) (h : Jn w l wr) (hl : l.length + s.length ≤ 140737488355328) : Calls Tryd.prog 25 #[.pointer (some ⟨w.heap.size, 0, none⟩), .string (S s)] wr fun e w' => e = .returned (.tuple #[.int .i64 s.length, .nilIface]) ∧ Jn w (l ++ s) w' :=
  (builder_write _ _ _ s _ h.bl hl h.below.size).mono fun _ _ hh => ⟨hh.1, hh.2.1, h.below.trans hh.2.2⟩
theorem jn_string {w wr : World} {l : List UInt8} (h : Jn w l wr) : Calls Tryd.prog 26 #[.pointer (some ⟨w.heap.size, 0, none⟩)] wr fun e w' => e = .returned (.string (S l)) ∧ Jn w l w' :=
  (builder_string _ _ _ _ h.bl h.below.size).mono fun _ _ hh => ⟨hh.1, hh.2.1, h.below.trans hh.2.2⟩
set_option maxRecDepth 100000 in
set_option maxHeartbeats 4000000 in
theorem join_any {v : Value} {L : List (List UInt8)} {w : World} (k e : Int) (h : TextsAt w v L) (hT : Tab w) (hT4 : Tab4 w) (hL : L.length ≤ 1000000) :
    Calls Tryd.prog 16 #[v, .int .u8 k, .int .i64 e] w fun r w' => r = .returned (.tuple #[.string (S (joinL L k e)), .int .i64 (joinE L k e)]) ∧ Below w.heap.size w w' := by
  obtain ⟨a, q, rfl, -⟩ := id h
  have HL : Hid _ := h.cellOf.2
  have HNo : Hid (∀ w', joinB L k e = false → Below w.heap.size w w' → (Ending.returned (.tuple #[.string ⟨#[]⟩, .int .i64 10]) = .returned (.tuple #[.string (S (joinL L k e)), .int .i64 (joinE L k e)]) ∧ Below w.heap.size w w')) := fun w' hj hb => ⟨by rw [(join_no hj).1, (join_no hj).2]; rfl, hb⟩
  have HYes : Hid (∀ w', joinB L k e = true → Below w.heap.size w w' → (Ending.returned (.tuple #[.string (S (dataL L)), .int .i64 0]) = .returned (.tuple #[.string (S (joinL L k e)), .int .i64 (joinE L k e)]) ∧ Below w.heap.size w w')) := fun w' hj hb => ⟨by rw [(join_yes hj).1, (join_yes hj).2], hb⟩
  have HS : Hid _ := Jn.start w
  have HT : Hid (Tab w) := hT
  have HT4 : Hid (Tab4 w) := hT4
  clear h hT hT4
  go_enter Tryd.func16, Tryd.ntmps16
  go_wp2
  go_loopw [15] (fun iv wr => ∃ m : Nat, m ≤ L.length ∧ iv = .int .i64 m ∧ (∀ j b, j < m → L[j]? = some b → goodB L k e j b) ∧ Jn w (dataL (L.take m)) wr) (fun iv _ => L.length - (intOf iv).toNat)
  case atStart => exact ⟨0, Nat.zero_le _, rfl, fun j b hj => by omega, HS.out⟩
  case round =>
    obtain ⟨m, hm, rfl, hG, hJ⟩ := hrel
    by_cases hlt : m < L.length
    · obtain ⟨x, hx⟩ : ∃ x, L[m]? = some x := ⟨_, List.getElem?_eq_getElem hlt⟩
      obtain ⟨b1, o1, rfl, k1⟩ := HL.out m x hx
      have c1 := k1 wr hJ.below
      have hlt2 : (m : Int) < (L.length : Int) := by omega
      have HC : Hid ((decE x = 10 ∧ frV (decF x) = .agg #[.int .u8 0, .int .i64 0, .int .i64 0, .string ⟨#[]⟩] ∧ joinB L k e = false) ∨
          (decE x = 0 ∧ ∃ k2 e2 i2 D2, frV (decF x) = .agg #[.int .u8 k2, .int .i64 e2, .int .i64 i2, .string (S D2)] ∧ D2.length ≤ 112 ∧ (¬ (k2 = k ∧ e2 = e ∧ i2 = m ∧ (dataL (L.take m)).length = 112 * m) → joinB L k e = false) ∧
            (k2 = k → e2 = e → i2 = m → (dataL (L.take m)).length = 112 * m → goodB L k e m x) ∧ dataL (L.take (m + 1)) = dataL (L.take m) ++ D2)) := by
        show _ ∨ _
        cases hd : decB x with
        | false => exact .inl ⟨(dec_no hd).2, (dec_no hd).1, bad_join hx (fun hg => by have h1 := hg.1; rw [hd] at h1; exact absurd h1 (by decide))⟩
        | true =>
          exact .inr ⟨decE_ok.2 hd, (decF x).k, (decF x).e, (decF x).i, (decF x).d, rfl, dec_len, fun hn => bad_join hx (fun hg => hn ⟨hg.2.1, hg.2.2.1, hg.2.2.2.1, hg.2.2.2.2⟩), fun h1 h2 h3 h4 => ⟨hd, h1, h2, h3, h4⟩, dataL_take hx⟩
      have HD2 : Hid (∀ w : World, Tab w → Tab4 w → Calls Tryd.prog 19 #[.string (S x)] w fun e w' => e = .returned (.tuple #[frV (decF x), .int .i64 (decE x)]) ∧ Below w.heap.size w w') := fun w h h4 => decode_any x w h h4
      have HGn : Hid (goodB L k e m x → ∀ j b, j < m + 1 → L[j]? = some b → goodB L k e j b) := fun hg j b hj hb => by
        by_cases e : j = m
        · subst e; rw [hx] at hb; obtain rfl := Option.some.inj hb; exact hg
        · exact hG j b (by omega) hb
      have HJ : Hid (Jn w (dataL (L.take m)) wr) := hJ
      have HTr : Hid (Tab wr ∧ Tab4 wr) := ⟨HT.out.below hJ.below, HT4.out.below hJ.below HT4.out.lt⟩
      have HLen : Hid ((dataL (L.take m)).length ≤ 112 * m) := by
        have := dataL_len (L.take m)
        rw [List.length_take] at this
        show _ ≤ _
        have h2 : min m L.length ≤ m := Nat.min_le_left _ _
        omega
      clear hx hG hJ k1
      generalize frV (decF x) = V at *
      generalize decE x = N at *
      generalize dataL (L.take m) = l0 at *
      generalize hl1 : dataL (L.take (m + 1)) = l1 at *
      have HL1 : Hid (dataL (L.take (m + 1)) = l1) := hl1
      clear hl1
      generalize S x = X at *
      go_wp2_with fail
      refine (HD2.out _ HTr.out.1 HTr.out.2).mono ?_
      rintro e' w2 ⟨rfl, b2⟩
      have HW : Hid (Tab w2 ∧ Tab4 w2) := ⟨HTr.out.1.below b2, HTr.out.2.below b2 HTr.out.2.lt⟩
      have HJ2 : Hid (Jn w l0 w2) := HJ.out.next b2
      clear b2 HJ HTr HD2 c1
      rcases HC.out with ⟨hN, hV, hj⟩ | ⟨hN, k2, e2, i2, D2, hV, hd, hj, hg, hd1⟩
      · subst hN hV
        have Hj : Hid _ := hj
        clear hj HC
        have HY := TS.start2 (k := 0) (e := 0) (i := 0) (D := ⟨#[]⟩) (t := 39) HW.out.1 HW.out.2 HJ2.out.below
        have HJ3 : Hid (Jn w l0 (w2.alloc (.cells #[.int .u8 0, .int .i64 0, .int .i64 0, .string ⟨#[]⟩] 39))) := HJ2.out.next ((Below.refl _ _).alloc (Nat.le_refl _) _)
        go_upto_region 6 with fail
        generalize w2.heap.size = B2 at *
        generalize w2.alloc _ = W2 at *
        have c0 := HY.c0
        have c1 := HY.c1
        have c2 := HY.c2
        have c3 := HY.c3
        have HW3 : Hid (Tab W2 ∧ Tab4 W2) := ⟨HY.tab, HY.tab4⟩
        clear HY
        have HF : Hid _ := HNo.out W2 (Hj.out) HJ3.out.below
        clear HNo HYes
        go_wp2
        go_ret2
        exact HF.out
      · subst hN hV
        have Hd : Hid (D2.length ≤ 112) := hd
        have Hj : Hid _ := hj
        have Hg : Hid _ := hg
        have Hd1 : Hid _ := hd1
        have HSD : Hid (l0.length + D2.length ≤ 140737488355328) := by have := HLen.out; show _ ≤ _; omega
        have HWr : Hid (∀ wr, Jn w l0 wr → Calls Tryd.prog 25 #[.pointer (some ⟨w.heap.size, 0, none⟩), .string (S D2)] wr fun e w' => e = .returned (.tuple #[.int .i64 D2.length, .nilIface]) ∧ Jn w (l0 ++ D2) w') := fun wr h => jn_write D2 h HSD.out
        clear hj HC hg hd1 hd
        generalize S D2 = A at *
        have HY := TS.start2 (k := k2) (e := e2) (i := i2) (D := A) (t := 39) HW.out.1 HW.out.2 HJ2.out.below
        have HJ3 : Hid (Jn w l0 (w2.alloc (.cells #[.int .u8 k2, .int .i64 e2, .int .i64 i2, .string A] 39))) := HJ2.out.next ((Below.refl _ _).alloc (Nat.le_refl _) _)
        go_upto_region 6 with fail
        generalize w2.heap.size = B2 at *
        generalize w2.alloc _ = W2 at *
        have c0 := HY.c0
        have c1 := HY.c1
        have c2 := HY.c2
        have c3 := HY.c3
        have HW3 : Hid (Tab W2 ∧ Tab4 W2) := ⟨HY.tab, HY.tab4⟩
        clear HY
        by_cases q1 : k2 = k
        rotate_left
        · have q1' : (k2 != k) = true := by simpa using q1
          have Hn : Hid (joinB L k e = false) := Hj.out (fun h => q1 h.1)
          clear Hj Hg q1
          have HF : Hid _ := HNo.out W2 (Hn.out) HJ3.out.below
          clear HNo HYes
          go_wp2
          go_ret2
          exact HF.out
        subst q1
        by_cases q2 : e2 = e
        rotate_left
        · have q2' : (e2 != e) = true := by simpa using q2
          have Hn : Hid (joinB L k2 e = false) := Hj.out (fun h => q2 h.2.1)
          clear Hj Hg q2
          have HF : Hid _ := HNo.out W2 (Hn.out) HJ3.out.below
          clear HNo HYes
          go_wp2
          go_ret2
          exact HF.out
        subst q2
        by_cases q3 : i2 = (m : Int)
        rotate_left
        · have q3' : (i2 != (m : Int)) = true := by simpa using q3
          have Hn : Hid (joinB L k2 e2 = false) := Hj.out (fun h => q3 h.2.2.1)
          clear Hj Hg q3
          have HF : Hid _ := HNo.out W2 (Hn.out) HJ3.out.below
          clear HNo HYes
          go_wp2
          go_ret2
          exact HF.out
        subst q3
        by_cases q4 : l0.length = 112 * m
        rotate_left
        · have q4' : ((l0.length : Int) != (m : Int) * 112) = true := by simp; omega
          have Hn : Hid (joinB L k2 e2 = false) := Hj.out (fun h => q4 h.2.2.2)
          have HF : Hid _ := HNo.out W2 Hn.out HJ3.out.below
          clear Hj Hg q4 HNo HYes
          go_wp2_with fail
          refine (jn_len HJ3.out).mono ?_
          rintro e' w3 ⟨rfl, rfl⟩
          go_wp2
          go_ret2
          exact HF.out
        have Hgd : Hid (∀ j b, j < m + 1 → L[j]? = some b → goodB L k2 e2 j b) := HGn.out (Hg.out rfl rfl rfl q4)
        have q4' : ((l0.length : Int) != (m : Int) * 112) = false := by simp; omega
        clear Hj Hg q4 HNo HYes
        go_wp2_with fail
        refine (jn_len HJ3.out).mono ?_
        rintro e' w3 ⟨rfl, rfl⟩
        go_wp2_with fail
        refine (HWr.out _ HJ3.out).mono ?_
        rintro e' w4 ⟨rfl, hj4⟩
        have HJ4 : Hid (Jn w l1 w4) := by show Jn _ _ _; rw [Hd1.out]; exact hj4
        clear hj4 HJ3 c0 c1 c2 c3
        go_wp2
        go_roundw
        case rel => exact ⟨m + 1, by omega, by go_num, Hgd.out, by rw [HL1.out]; exact HJ4.out⟩
        case measure => simp [intOf]; omega
    · obtain rfl : m = L.length := by omega
      rw [List.take_of_length_le (Nat.le_refl _)] at hJ
      have hlt2 : ¬ ((L.length : Nat) : Int) < (L.length : Int) := by omega
      have HJ : Hid (Jn w (dataL L) wr) := hJ
      have HLen : Hid ((dataL L).length ≤ 112 * L.length) := dataL_len L
      have HCn : Hid (∀ w : World, Calls Tryd.prog 12 #[.int .i64 (dataL L).length] w fun e w' => e = .returned (.int .i64 (cntN (dataL L).length)) ∧ w' = w) := fun w => by
        have := count_any (dataL L).length w (by omega) (by have := HLen.out; omega)
        rwa [show cntI ((dataL L).length : Int) = (cntN (dataL L).length : Int) by unfold cntI; rw [if_neg (by omega), Int.toNat_natCast]] at this
      have HG : Hid (∀ j b, L[j]? = some b → goodB L k e j b) := fun j b hb => hG j b (List.getElem?_eq_some_iff.1 hb).1 hb
      clear hG hJ
      by_cases q : cntN (dataL L).length = L.length
      · have HF := HYes.out
        have Hjb : Hid (joinB L k e = true) := good_join HG.out q
        have HF : Hid _ := fun w' => HYes.out w' Hjb.out
        have q' : ((cntN (dataL L).length : Int) != (L.length : Int)) = false := by simp; omega
        clear HNo HYes q
        generalize dataL L = l at *
        generalize cntN l.length = C at *
        go_wp2_with fail
        refine (jn_len HJ.out).mono ?_
        rintro e' w3 ⟨rfl, rfl⟩
        go_wp2_with fail
        refine (HCn.out _).mono ?_
        rintro e' w3' ⟨rfl, rfl⟩
        go_wp2_with fail
        refine (jn_string HJ.out).mono ?_
        rintro e' w4 ⟨rfl, hj4⟩
        have HJ4 : Hid _ := hj4.below
        clear hj4
        go_wp2
        go_ret2
        exact HF.out _ HJ4.out
      · have Hjb : Hid (joinB L k e = false) := by
          show _ = _
          cases hj : joinB L k e with
          | false => rfl
          | true => exact absurd (join_good hj).2 q
        have HF : Hid _ := HNo.out wr Hjb.out HJ.out.below
        have q' : ((cntN (dataL L).length : Int) != (L.length : Int)) = true := by simp; omega
        clear HNo HYes q
        generalize dataL L = l at *
        generalize cntN l.length = C at *
        go_wp2_with fail
        refine (jn_len HJ.out).mono ?_
        rintro e' w3 ⟨rfl, rfl⟩
        go_wp2_with fail
        refine (HCn.out _).mono ?_
        rintro e' w3' ⟨rfl, rfl⟩
        go_wp2
        go_ret2
        exact HF.out
end Go.Proofs.YtalofhnjlmgloaaDoor
