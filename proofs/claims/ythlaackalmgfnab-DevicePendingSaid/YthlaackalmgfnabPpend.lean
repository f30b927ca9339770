/- The law DevicePending, walked. -/
import Derived.Test.YthlaackalmgfnabEj
import Derived.Test.YthlaackalmgfnabEc
namespace Go.Proofs.Ythlaackalmgfnab
open Go.RowKit

set_option maxRecDepth 100000 in
set_option maxHeartbeats 3200000 in
theorem pend_any {w : World} {a : Option Addr} {xs : List DoX} (h : DosAt w a xs) (c n : Nat) (hn : n < 256) : Calls Try.prog 5 #[.int .u8 (n : Int), .slice a xs.length c] w fun e w' => e = .returned (.bool true) ∧ Below w.heap.size w w' := by
  have HMu : Hid (Calls Try.prog 8 #[.slice a xs.length c, .int .i64 60] w fun e w' => e = .returned (.bool (muchD xs 60)) ∧ w' = w) := much_any h c 60 (by omega)
  have HAf : Hid (Calls Try.prog 9 #[.int .u8 (n : Int), .slice none 0 0] w fun e w' => ∃ p, e = .returned (.pointer (some ⟨p, 0, none⟩)) ∧ ∃ O, One w p (afterD n []) O w') := after_any (a := none) (xs := []) (fun j x hj => by simp at hj) 0 n hn (by simp) rfl
  have HD : Hid (DosAt w a xs) := h
  clear h
  cases hmu : muchD xs 60 with
  | true =>
    rw [hmu] at HMu
    clear hmu HD HAf
    go_enter Try.func5, Try.ntmps5
    go_wp2_with fail
    refine Calls.mono HMu.out ?_
    rintro e w' ⟨rfl, rfl⟩
    clear HMu
    go_wp2
    go_ret
    exact ⟨rfl, Below.refl _ _⟩
  | false =>
    rw [hmu] at HMu
    unfold muchD at hmu
    rw [Bool.or_eq_false_iff] at hmu
    obtain ⟨hm1, hm2⟩ := hmu
    have hl : xs.length ≤ 60 := by simpa using hm1
    have HMl : Hid (∀ x ∈ xs, x.k.length ≤ 100) := fun x hx => by
      have := List.any_eq_false.1 hm2 x hx
      unfold muchB at this
      simp at this
      exact this.2
    clear hm1 hm2
    go_enter Try.func5, Try.ntmps5
    go_wp2_with fail
    refine Calls.mono HMu.out ?_
    rintro e w' ⟨rfl, rfl⟩
    clear HMu
    go_wp2_with fail
    refine Calls.mono HAf.out ?_
    rintro e w1 ⟨p, rfl, h1⟩
    have H1 : Hid (∃ O, One w' p (afterN n xs 0) O w1) := h1
    clear h1 HAf
    have hz : ((afterN n xs 0).acts.length : Int) = 0 := rfl
    have HZ : Hid _ := hz
    clear hz
    go_wp2
    go_loopw [6, 7] (fun many i wr => ∃ m : Nat, m ≤ xs.length ∧ i = .int .i64 m ∧ many = .int .i64 ((afterN n xs m).acts.length : Int) ∧ ∃ O, One w' p (afterN n xs m) O wr) (fun _ i _ => xs.length - (intOf i).toNat)
    case atStart => exact ⟨0, Nat.zero_le _, rfl, rfl, H1.out⟩
    case round =>
      obtain ⟨m, hmm, rfl, rfl, O, hO⟩ := hrel
      clear H1 HZ
      by_cases hlt : m < xs.length
      · obtain ⟨x, hx⟩ : ∃ x, xs[m]? = some x := ⟨_, List.getElem?_eq_getElem hlt⟩
        obtain ⟨hok, b, o, rfl, hrg⟩ := HD.out m x hx
        have hrg2 := range_below hrg hO.below
        have c0 : wr.cell? ⟨b, o + m * 5, none⟩ = some (.int .u8 (x.q : Int)) := hrg2 0 _ rfl
        have c1 : wr.cell? ⟨b, o + m * 5 + 1, none⟩ = some (.int .i64 x.i) := hrg2 1 _ rfl
        have HRg : Hid (wr.rangeAt b (o + m * 5) x.v.toList) := hrg2
        have hlt2 : (m : Int) < (xs.length : Int) := by omega
        have hq2 : (x.q : Int) < 256 := by have := hok.q; omega
        obtain ⟨f1, f2⟩ := afterN_few n xs m
        by_cases hq : x.q % 13 < 11
        · have hq3 : ¬ (10 : Int) < (x.q : Int) % 13 := by omega
          have HA : Hid (afterN n xs (m + 1) = (withD (afterN n xs m) x).2) := by show _ = _; rw [afterN, hx]; exact if_pos hq
          have hxl := HMl.out x (List.mem_of_getElem? hx)
          have hpl := (withD_pend (afterN_plain n xs m) x hq).2
          have HW : Hid (Calls Try.prog 17 #[.pointer (some ⟨p, 0, none⟩), .agg x.v] wr (Tells fun r w2 => r = (withD (afterN n xs m) x).1 ∧ ∃ O', One w' p (withD (afterN n xs m) x).2 O' w2 ∧ Turn O wr w2)) :=
            one_with hO x (hok.below hO.below) (fun hk i hi _ hOi => by
              have h1 := hO.lo i hOi
              have h2 := hok.kb hk i hi
              omega) (by omega) (by omega) (by omega) (by omega)
          have HSt : Hid (Calls Try.prog 24 #[.pointer (some ⟨p, 0, none⟩), .int .i64 x.i] wr fun e w2 => e = .returned (.int .i64 (stAtD (afterN n xs m) x.i)) ∧ w2 = wr) := state_dev hO.dev x.i
          have HPe : Hid (∀ w2, (∃ O', One w' p (withD (afterN n xs m) x).2 O' w2) → Calls Try.prog 12 #[.pointer (some ⟨p, 0, none⟩)] w2 fun e w3 => e = .returned (.int .i64 ((afterN n xs (m + 1)).acts.length : Int)) ∧ w3 = w2) := fun w2 ⟨O', hh⟩ => by rw [HA.out]; exact pending_dev hh.dev
          have HIC : Hid ((Try.prog.info? 36).map (·.size) = some x.v.toList.length) := by show _ = _; rw [DoX.size]; kernel_rfl
          rw [← HA.out] at hpl
          have HN : Hid (∀ w2, (∃ O', One w' p (withD (afterN n xs m) x).2 O' w2) → ∃ O, One w' p (afterN n xs (m + 1)) O w2) := fun w2 hh => by rw [HA.out]; exact hh
          have few : (afterN n xs m).acts.length < 1000000 := by omega
          obtain ⟨N1, hN1⟩ : ∃ N1, N1 = (afterN n xs (m + 1)).acts.length := ⟨_, rfl⟩
          rw [← hN1] at HPe hpl
          have HN1 : Hid (N1 = (afterN n xs (m + 1)).acts.length) := hN1
          clear hN1
          generalize (afterN n xs m).acts.length = N0 at *
          generalize (withD (afterN n xs m) x).1 = r at *
          generalize stAtD (afterN n xs m) x.i = st at *
          clear hO hok hx hrg hrg2 f1 f2 hxl HD HMl HA
          generalize x.v = V at *
          generalize x.i = xi at *
          generalize x.q = q at *
          go_wp2_with fail
          refine Calls.mono HSt.out ?_
          rintro e w2 ⟨rfl, rfl⟩
          clear HSt
          go_wp2_with (refine wpList_load_mid rfl 36 _ rfl b (o + m * 5) rfl V.toList _ HRg.out Try.underlying36 rfl HIC.out ?_)
          refine Calls.mono HW.out ?_
          rintro e w3 ⟨r', rfl, rfl, O', hO', -⟩
          have HP3 : Hid (Calls Try.prog 12 #[.pointer (some ⟨p, 0, none⟩)] w3 fun e w4 => e = .returned (.int .i64 (N1 : Int)) ∧ w4 = w3) := HPe.out w3 ⟨O', hO'⟩
          have HN3 : Hid (∃ O, One w' p (afterN n xs (m + 1)) O w3) := HN.out w3 ⟨O', hO'⟩
          clear hO' HW HPe HN HRg HIC c0 c1
          by_cases hr : r' = 0
          · subst hr
            rw [if_pos rfl] at hpl
            by_cases k5 : q % 13 < 5
            · rw [if_pos k5] at hpl
              have t1 : (q : Int) % 13 < 5 := by omega
              have t2 : ¬ (q : Int) % 13 = 7 := by omega
              have t3 : ¬ (q : Int) % 13 = 8 := by omega
              have t2b : ((q : Int) % 13 == 7) = false := by simpa using t2
              have t3b : ((q : Int) % 13 == 8) = false := by simpa using t3
              have HNN : Hid ((N1 : Int) = (N0 : Int) + 1) := by show _ = _; omega
              have hne : ((N1 : Int) != (N0 : Int) + 1) = false := by rw [HNN.out]; simp
              clear hpl
              go_wp2_with fail
              refine Calls.mono HP3.out ?_
              rintro e w4 ⟨rfl, rfl⟩
              clear HP3
              go_wp2
              go_roundw
              case rel => exact ⟨m + 1, by omega, by go_num, by rw [← HN1.out, HNN.out], HN3.out⟩
              case measure => simp [intOf]; omega
            · rw [if_neg k5] at hpl
              by_cases k5b : q % 13 = 5
              · rw [if_pos (by omega)] at hpl
                have t1 : (q : Int) % 13 = 5 := by omega
                by_cases hs : st = 1
                · subst hs
                  rw [if_pos rfl] at hpl
                  have HNN : Hid ((N1 : Int) = (N0 : Int) + 1) := by show _ = _; omega
                  have hne : ((N1 : Int) != (N0 : Int) + 1) = false := by rw [HNN.out]; simp
                  clear hpl
                  go_wp2_with fail
                  refine Calls.mono HP3.out ?_
                  rintro e w4 ⟨rfl, rfl⟩
                  clear HP3
                  go_wp2
                  go_roundw
                  case rel => exact ⟨m + 1, by omega, by go_num, by rw [← HN1.out, HNN.out], HN3.out⟩
                  case measure => simp [intOf]; omega
                · rw [if_neg hs] at hpl
                  have hs2 : (st == 1) = false := by simpa using hs
                  have HNN : Hid ((N1 : Int) = (N0 : Int)) := by show _ = _; omega
                  have hne : ((N1 : Int) != (N0 : Int)) = false := by rw [HNN.out]; simp
                  clear hpl
                  go_wp2_with fail
                  refine Calls.mono HP3.out ?_
                  rintro e w4 ⟨rfl, rfl⟩
                  clear HP3
                  go_wp2
                  go_roundw
                  case rel => exact ⟨m + 1, by omega, by go_num, by rw [← HN1.out, HNN.out], HN3.out⟩
                  case measure => simp [intOf]; omega
              by_cases k6b : q % 13 = 6
              · rw [if_pos (by omega)] at hpl
                have t1 : (q : Int) % 13 = 6 := by omega
                by_cases hs : st = 1
                · subst hs
                  rw [if_pos rfl] at hpl
                  have HNN : Hid ((N1 : Int) = (N0 : Int) + 1) := by show _ = _; omega
                  have hne : ((N1 : Int) != (N0 : Int) + 1) = false := by rw [HNN.out]; simp
                  clear hpl
                  go_wp2_with fail
                  refine Calls.mono HP3.out ?_
                  rintro e w4 ⟨rfl, rfl⟩
                  clear HP3
                  go_wp2
                  go_roundw
                  case rel => exact ⟨m + 1, by omega, by go_num, by rw [← HN1.out, HNN.out], HN3.out⟩
                  case measure => simp [intOf]; omega
                · rw [if_neg hs] at hpl
                  have hs2 : (st == 1) = false := by simpa using hs
                  have HNN : Hid ((N1 : Int) = (N0 : Int)) := by show _ = _; omega
                  have hne : ((N1 : Int) != (N0 : Int)) = false := by rw [HNN.out]; simp
                  clear hpl
                  go_wp2_with fail
                  refine Calls.mono HP3.out ?_
                  rintro e w4 ⟨rfl, rfl⟩
                  clear HP3
                  go_wp2
                  go_roundw
                  case rel => exact ⟨m + 1, by omega, by go_num, by rw [← HN1.out, HNN.out], HN3.out⟩
                  case measure => simp [intOf]; omega
              rw [if_neg (by omega)] at hpl
              by_cases k7b : q % 13 = 7
              · rw [if_pos (by omega)] at hpl
                have t1 : (q : Int) % 13 = 7 := by omega
                have HNN : Hid ((N1 : Int) = 0) := by show _ = _; omega
                have hne : ((N1 : Int) != 0) = false := by rw [HNN.out]; simp
                clear hpl
                go_wp2_with fail
                refine Calls.mono HP3.out ?_
                rintro e w4 ⟨rfl, rfl⟩
                clear HP3
                go_wp2
                go_roundw
                case rel => exact ⟨m + 1, by omega, by go_num, by rw [← HN1.out, HNN.out], HN3.out⟩
                case measure => simp [intOf]; omega
              by_cases k8b : q % 13 = 8
              · rw [if_pos (by omega)] at hpl
                have t1 : (q : Int) % 13 = 8 := by omega
                have HNN : Hid ((N1 : Int) = 0) := by show _ = _; omega
                have hne : ((N1 : Int) != 0) = false := by rw [HNN.out]; simp
                clear hpl
                go_wp2_with fail
                refine Calls.mono HP3.out ?_
                rintro e w4 ⟨rfl, rfl⟩
                clear HP3
                go_wp2
                go_roundw
                case rel => exact ⟨m + 1, by omega, by go_num, by rw [← HN1.out, HNN.out], HN3.out⟩
                case measure => simp [intOf]; omega
              rw [if_neg (by omega)] at hpl
              by_cases k9 : q % 13 = 9
              · have t1 : (q : Int) % 13 = 9 := by omega
                have HNN : Hid ((N1 : Int) = (N0 : Int)) := by show _ = _; omega
                have hne : ((N1 : Int) != (N0 : Int)) = false := by rw [HNN.out]; simp
                clear hpl
                go_wp2_with fail
                refine Calls.mono HP3.out ?_
                rintro e w4 ⟨rfl, rfl⟩
                clear HP3
                go_wp2
                go_roundw
                case rel => exact ⟨m + 1, by omega, by go_num, by rw [← HN1.out, HNN.out], HN3.out⟩
                case measure => simp [intOf]; omega
              · have t1 : (q : Int) % 13 = 10 := by omega
                have HNN : Hid ((N1 : Int) = (N0 : Int)) := by show _ = _; omega
                have hne : ((N1 : Int) != (N0 : Int)) = false := by rw [HNN.out]; simp
                clear hpl
                go_wp2_with fail
                refine Calls.mono HP3.out ?_
                rintro e w4 ⟨rfl, rfl⟩
                clear HP3
                go_wp2
                go_roundw
                case rel => exact ⟨m + 1, by omega, by go_num, by rw [← HN1.out, HNN.out], HN3.out⟩
                case measure => simp [intOf]; omega
          · rw [if_neg hr] at hpl
            have hr2 : (r' == 0) = false := by simpa using hr
            have HNN : Hid ((N1 : Int) = (N0 : Int)) := by show _ = _; omega
            have hne : ((N1 : Int) != (N0 : Int)) = false := by rw [HNN.out]; simp
            clear hpl
            go_wp2_with fail
            refine Calls.mono HP3.out ?_
            rintro e w4 ⟨rfl, rfl⟩
            clear HP3
            go_wp2
            go_roundw
            case rel => exact ⟨m + 1, by omega, by go_num, by rw [← HN1.out, HNN.out], HN3.out⟩
            case measure => simp [intOf]; omega
        · have hq3 : (10 : Int) < (x.q : Int) % 13 := by have := Nat.mod_lt x.q (show 0 < 13 by omega); omega
          have e : afterN n xs (m + 1) = afterN n xs m := by rw [afterN, hx]; exact if_neg hq
          have HN : Hid (∃ O, One w' p (afterN n xs (m + 1)) O wr) := ⟨O, by rw [e]; exact hO⟩
          have HE : Hid ((afterN n xs m).acts.length = (afterN n xs (m + 1)).acts.length) := by show _ = _; rw [e]
          clear hO hok hx hrg hrg2 f1 f2 hq HD HMl HRg e
          go_wp2
          go_roundw
          case rel => exact ⟨m + 1, by omega, by go_num, by rw [HE.out], HN.out⟩
          case measure => simp [intOf]; omega
      · have hlt2 : ¬ (m : Int) < (xs.length : Int) := by omega
        have HDo : Hid (Calls Try.prog 21 #[] wr fun e w2 => e = .returned (.bool true) ∧ Below w'.heap.size w' w2) := (does_any wr).mono fun _ _ hh => ⟨hh.1, hO.below.trans (hh.2.mono hO.below.size)⟩
        clear hO HD HMl
        go_wp2_with fail
        refine Calls.mono HDo.out ?_
        rintro e w2 ⟨rfl, hb⟩
        have HB : Hid _ := hb
        clear hb HDo
        go_wp2
        go_ret
        exact ⟨rfl, HB.out⟩
theorem pend_int {w : World} {a : Option Addr} {xs : List DoX} (h : DosAt w a xs) (c : Nat) (n : Int) (h0 : 0 ≤ n) (h1 : n < 256) : Calls Try.prog 5 #[.int .u8 n, .slice a xs.length c] w fun e w' => e = .returned (.bool true) ∧ Below w.heap.size w w' := by
  obtain ⟨m, rfl⟩ : ∃ m : Nat, n = m := ⟨n.toNat, by omega⟩
  exact pend_any h c m (by omega)
end Go.Proofs.Ythlaackalmgfnab
