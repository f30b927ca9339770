/- The law DeviceTell holds: at every input it returns true, and its arguments read as before. -/
import Derived.Test.YthlaackalmgfnaaHe
import Derived.Test.YthlaackalmgfnaaEc
import Derived.Test.YthlaackalmgfnaaRows
import Derived.Test.YthlaackalmgfnaaChecked
import Derived.ProofKit
import Derived.OpenShut
import Derived.ShutString
import Derived.ChangeOld
import Derived.SizedLaws
import Derived.Deep.DeepHandedRow
import Derived.Lib.LaidTab
import Derived.Test.YthlaackalmgfnaaEe
/- The law DeviceTell, walked. -/
namespace Go.Proofs.Ythlaackalmgfnaa
open Go.RowKit

theorem nil_dev (a : Option Addr) (w : World) : (binOp .eql 24 (.pointer a) (.pointer none)).run Try.prog w = .ok (.bool a.isNone) w := by cases a <;> kernel_rfl
theorem write_not1 (d : Dv) (i : Int) (s : List UInt8) : (writeD d i s).1 ≠ 1 := by
  have he : ∀ d : Dv, (endD d).1 ≠ 1 := fun d => by
    unfold endD
    split
    · show (43 : Int) ≠ 1; decide
    · show (0 : Int) ≠ 1; decide
  unfold writeD
  split
  · show (43 : Int) ≠ 1; decide
  · split
    · show (2 : Int) ≠ 1; decide
    · split
      · show (40 : Int) ≠ 1; decide
      · split
        · show (42 : Int) ≠ 1; decide
        · exact he _
set_option linter.unusedSimpArgs false in
set_option maxRecDepth 1000000 in
set_option maxHeartbeats 12800000 in
theorem tell_law {w : World} {a : Option Addr} {xs : List DoX} (c : Nat) (hh : DosAt w a xs ∧ xs.length ≤ c) (blocks : Int) : Calls Try.prog 3 #[.int .i64 blocks, .slice a xs.length c] w fun e w' => e = .returned (.bool true) ∧ Below w.heap.size w w' := by
  obtain ⟨h, hcap⟩ := hh
  have HMu : Hid (Calls Try.prog 9 #[.slice a xs.length c, .int .i64 60] w fun e w' => e = .returned (.bool (muchD xs 60)) ∧ w' = w) := much_any h c 60 (by omega)
  have HX : Hid (DosAt w a xs) := h
  clear h
  cases hm1 : muchD xs 60 with
  | true =>
    rw [hm1] at HMu
    go_enter Try.func3, Try.ntmps3
    go_wp2_with fail
    refine Calls.mono HMu.out ?_
    rintro e w' ⟨rfl, rfl⟩
    clear HMu hm1
    go_wp2
    go_ret
    exact ⟨rfl, Below.refl _ _⟩
  | false =>
    rw [hm1] at HMu
    obtain ⟨hl, -, hmy⟩ := much_parts hm1
    have HMY : Hid (∀ x ∈ xs, x.k.length ≤ 100) := fun x hx => (hmy x hx).2
    clear hm1 hmy
    by_cases hbk : blocks < 4 ∨ 512 < blocks
    · have HN1 : Hid (Calls Try.prog 10 #[.int .i64 blocks] w fun e w' => e = .returned (.tuple #[.pointer none, .int .i64 2]) ∧ w' = w) := new_bad blocks hbk w
      have HN2 : Hid (Calls Try.prog 11 #[.int .i64 blocks] w fun e w' => e = .returned (.tuple #[.pointer none, .int .i64 2]) ∧ w' = w) := rnew_bad blocks hbk w
      have HDo : Hid (Calls Try.prog 16 #[] w fun e w' => e = .returned (.bool true) ∧ Below w.heap.size w w') := does_any w
      clear hbk HX HMY
      go_enter Try.func3, Try.ntmps3
      go_wp2_with fail
      refine Calls.mono HMu.out ?_
      rintro e w' ⟨rfl, hw'⟩
      replace hw' := hw'.symm
      subst hw'
      clear HMu
      go_wp2_with fail
      refine Calls.mono HN1.out ?_
      rintro e w1 ⟨rfl, hw1⟩
      subst hw1
      clear HN1
      go_wp2_with fail
      refine Calls.mono HN2.out ?_
      rintro e w2 ⟨rfl, hw2⟩
      subst hw2
      clear HN2
      go_wp2
      go_loopw [9] (fun i wr => i = .int .i64 0 ∧ wr = w2) (fun _ _ => 0)
      case atStart => exact ⟨rfl, rfl⟩
      case round =>
        obtain ⟨rfl, rfl⟩ := hrel
        by_cases h0 : 0 < xs.length
        all_goals
          have h02 : (0 : Int) < (xs.length : Int) ∨ ¬ (0 : Int) < (xs.length : Int) := Decidable.em _
          go_wp2_with fail
          refine Calls.mono HDo.out ?_
          rintro e w3 ⟨rfl, hb3⟩
          have HB3 : Hid _ := hb3
          clear hb3 HDo
          go_wp2
          go_ret
          exact ⟨rfl, HB3.out⟩
    · obtain ⟨n, rfl⟩ : ∃ n : Nat, blocks = n := ⟨blocks.toNat, by omega⟩
      have h4 : 4 ≤ n := by omega
      have h5 : n ≤ 512 := by omega
      have HN1 : Hid (Calls Try.prog 10 #[.int .i64 (n : Int)] w fun e w' => ∃ p, e = .returned (.tuple #[.pointer (some ⟨p, 0, none⟩), .int .i64 0]) ∧ Dev w' p (newD n) (fun k => w.heap.size ≤ k ∧ k < w'.heap.size) ∧ Below w.heap.size w w') := new_ok n h4 h5 w
      have HN2 : Hid (∀ w1, Calls Try.prog 11 #[.int .i64 (n : Int)] w1 fun e w' => ∃ q, e = .returned (.tuple #[.pointer (some ⟨q, 0, none⟩), .int .i64 0]) ∧ Ref w' q (rnewD n) (fun k => w1.heap.size ≤ k ∧ k < w'.heap.size) ∧ Below w1.heap.size w1 w') := fun w1 => rnew_ok n h4 h5 w1
      clear hbk h4 h5
      go_enter Try.func3, Try.ntmps3
      go_wp2_with fail
      refine Calls.mono HMu.out ?_
      rintro e w' ⟨rfl, hw'⟩
      replace hw' := hw'.symm
      subst hw'
      clear HMu
      go_wp2_with fail
      refine Calls.mono HN1.out ?_
      rintro e w1 ⟨p, rfl, hd1, hb1⟩
      have HD1 : Hid _ := hd1
      have HB1 : Hid _ := hb1
      have HN3 : Hid _ := HN2.out w1
      clear hd1 hb1 HN1 HN2
      go_wp2_with fail
      refine Calls.mono HN3.out ?_
      rintro e w2 ⟨q, rfl, hr2, hb2⟩
      have HDu : Hid (Duo w p q (newD n) (rnewD n) w2) := both_new HD1.out HB1.out hr2 hb2
      obtain ⟨aa, bb, ca, cb, cv, kv, hra⟩ := id hr2
      have c0 := hra.c.1
      have hln : (rnewD n).st.length = n := by simp [rnewD]
      rw [hln] at c0
      clear hr2 hb2 HD1 HB1 HN3 hra hln
      by_cases t30 : 30 < n
      · have t30b : (30 : Int) < (n : Int) := by omega
        by_cases t10 : 10 < xs.length
        · have t10b : (10 : Int) < (xs.length : Int) := by omega
          have t10c : (10 : Int) ≤ (c : Int) := by omega
          have t10d : 10 ≤ c := by omega
          go_wp2
          have HI0 : Hid (TellI w p q 0 w2) := ⟨newD n, rnewD n, HDu.out, Nat.le_refl _, Nat.le_refl _, Nat.zero_le _⟩
          clear HDu c0
          refine tloop (c := c) HX.out (show 10 ≤ xs.length by omega) (by omega) (fun x hx => HMY.out x hx) HI0.out (by kernel_rfl) (fun _ _ t _ _ h => by cases t <;> exact h) ?_
          intro u cc m wr hm hI
          obtain ⟨d, r, hDu, hac, hst, hke⟩ := hI
          have HDu : Hid (Duo w p q d r wr) := hDu
          have hac6 : d.acts.length ≤ 60 := by omega
          have hq0 : wr.cell? ⟨q, 0, none⟩ = wr.cell? ⟨q, 0, none⟩ := rfl
          clear HI0 hq0 hke hst
          obtain ⟨P, O, hB⟩ := hDu
          have HCl : Hid (Calls Try.prog 17 #[.pointer (some ⟨p, 0, none⟩)] wr fun e w' => ∃ q, e = .returned (.pointer (some ⟨q, 0, none⟩)) ∧ Dev w' q (runD d.sure) (fun k => wr.heap.size ≤ k ∧ k < w'.heap.size) ∧ Below wr.heap.size wr w') := clone_dev hB.dev
          have HRc : Hid (∀ wz, Below wr.heap.size wr wz → Calls Try.prog 18 #[.pointer (some ⟨q, 0, none⟩)] wz fun e w' => ∃ q', e = .returned (.pointer (some ⟨q', 0, none⟩)) ∧ Ref w' q' (rcloneD r) (fun k => wz.heap.size ≤ k ∧ k < w'.heap.size) ∧ Below wz.heap.size wz w') := fun wz hb => rclone_any (hB.ref.below hb)
          have HBw : Hid (Below w.heap.size w wr) := hB.below
          clear hB
          unfold tfr
          go_wp2_with fail
          refine Calls.mono HCl.out ?_
          rintro e w4 ⟨p', rfl, hd4, hb4⟩
          have HD4 : Hid _ := hd4
          have HB4 : Hid (Below wr.heap.size wr w4) := hb4
          have HR4 : Hid _ := HRc.out w4 hb4
          clear hd4 hb4 HCl HRc
          go_wp2_with fail
          refine Calls.mono HR4.out ?_
          rintro e w5 ⟨q', rfl, hr5, hb5⟩
          have HDc : Hid (Duo wr p' q' (runD d.sure) (rcloneD r) w5) := both_clone HDu.out HD4.out HB4.out hr5 hb5
          have HB5 : Hid (Below wr.heap.size wr w5) := HB4.out.trans (hb5.mono HB4.out.size)
          have HSa : Hid (Calls Try.prog 15 #[.pointer (some ⟨p', 0, none⟩), .pointer (some ⟨q', 0, none⟩)] w5 fun e w' => e = .returned (.bool true) ∧ Below w5.heap.size w5 w') := duo_same HDc.out (Nat.zero_le _)
          clear hr5 hb5 HD4 HB4 HR4
          go_wp2_with fail
          refine Calls.mono HSa.out ?_
          rintro e w6 ⟨rfl, hb6⟩
          have HB6 : Hid (Below wr.heap.size wr w6) := HB5.out.trans (hb6.mono HB5.out.size)
          have HDc6 : Hid (Duo wr p' q' (runD d.sure) (rcloneD r) w6) := HDc.out.at_ hb6
          have HBl : Hid (Calls Try.prog 20 #[.string ⟨#[122]⟩] w6 fun e w' => e = .returned (.string (S (blockT [122]))) ∧ Below w6.heap.size w6 w') := block_any [122] w6
          clear hb6 HSa HB5 HDc
          go_wp2_with fail
          refine Calls.mono HBl.out ?_
          rintro e w7 ⟨rfl, hb7⟩
          have HB7 : Hid (Below wr.heap.size wr w7) := HB6.out.trans (hb7.mono HB6.out.size)
          have HWr : Hid (Calls Try.prog 19 #[.pointer (some ⟨p', 0, none⟩), .int .i64 0, .string (S (blockT [122]))] w7 fun e w' => e = .returned (.int .i64 (writeD (runD d.sure) 0 (blockT [122])).1) ∧ Below wr.heap.size wr w') := by
            obtain ⟨P2, O2, hB2⟩ := HDc6.out.at_ hb7
            exact (write_dev hB2.dev 0 _ (by show (0 : Nat) < 1000000; omega)).mono fun e w' hh => ⟨hh.1, HB7.out.trans (hh.2.2.below (fun k hk => (hB2.lo k (.inl hk)).1) HB7.out.size)⟩
          have HWn : Hid ((writeD (runD d.sure) 0 (blockT [122])).1 ≠ 1) := write_not1 _ _ _
          clear hb7 HBl HB6 HDc6
          generalize S (blockT [122]) = Z at *
          generalize (writeD (runD d.sure) 0 (blockT [122])).1 = F at *
          have hF1 : (F == 1) = false := by have h1 := HWn.out; simpa using h1
          go_wp2_with fail
          refine Calls.mono HWr.out ?_
          rintro e w8 ⟨rfl, hb8⟩
          have HB8 : Hid (Below wr.heap.size wr w8) := hb8
          have HSa2 : Hid (Calls Try.prog 15 #[.pointer (some ⟨p, 0, none⟩), .pointer (some ⟨q, 0, none⟩)] w8 fun e w' => e = .returned (.bool true) ∧ Below w8.heap.size w8 w') := duo_same (HDu.out.at_ hb8) hac6
          clear hb8 HWr HB7 HDu
          go_wp2_with fail
          refine Calls.mono HSa2.out ?_
          rintro e w9 ⟨rfl, hb9⟩
          have HB9 : Hid (Below wr.heap.size wr w9) := HB8.out.trans (hb9.mono HB8.out.size)
          have HDo : Hid (Calls Try.prog 16 #[] w9 fun e w' => e = .returned (.bool true) ∧ Below w9.heap.size w9 w') := does_any w9
          clear hb9 HSa2 HB8
          go_wp2_with fail
          refine Calls.mono HDo.out ?_
          rintro e w10 ⟨rfl, hb10⟩
          have HB10 : Hid (Below w.heap.size w w10) := HBw.out.trans ((HB9.out.trans (hb10.mono HB9.out.size)).mono HBw.out.size)
          clear hb10 HDo HB9 HBw
          go_wp2
          go_ret
          exact ⟨rfl, HB10.out⟩
        · have t10b : ¬ (10 : Int) < (xs.length : Int) := by omega
          go_wp2
          have HI0 : Hid (TellI w p q 0 w2) := ⟨newD n, rnewD n, HDu.out, Nat.le_refl _, Nat.le_refl _, Nat.zero_le _⟩
          clear HDu c0
          refine tloop (c := c) HX.out (Nat.le_refl _) hl (fun x hx => HMY.out x hx) HI0.out (by kernel_rfl) (fun _ _ t _ _ h => by cases t <;> exact h) ?_
          intro u cc m wr hm hI
          obtain ⟨d, r, hDu, hac, hst, hke⟩ := hI
          have HDu : Hid (Duo w p q d r wr) := hDu
          have hac6 : d.acts.length ≤ 60 := by omega
          have hq0 : wr.cell? ⟨q, 0, none⟩ = wr.cell? ⟨q, 0, none⟩ := rfl
          clear HI0 hq0 hke hst
          obtain ⟨P, O, hB⟩ := hDu
          have HCl : Hid (Calls Try.prog 17 #[.pointer (some ⟨p, 0, none⟩)] wr fun e w' => ∃ q, e = .returned (.pointer (some ⟨q, 0, none⟩)) ∧ Dev w' q (runD d.sure) (fun k => wr.heap.size ≤ k ∧ k < w'.heap.size) ∧ Below wr.heap.size wr w') := clone_dev hB.dev
          have HRc : Hid (∀ wz, Below wr.heap.size wr wz → Calls Try.prog 18 #[.pointer (some ⟨q, 0, none⟩)] wz fun e w' => ∃ q', e = .returned (.pointer (some ⟨q', 0, none⟩)) ∧ Ref w' q' (rcloneD r) (fun k => wz.heap.size ≤ k ∧ k < w'.heap.size) ∧ Below wz.heap.size wz w') := fun wz hb => rclone_any (hB.ref.below hb)
          have HBw : Hid (Below w.heap.size w wr) := hB.below
          clear hB
          unfold tfr
          go_wp2_with fail
          refine Calls.mono HCl.out ?_
          rintro e w4 ⟨p', rfl, hd4, hb4⟩
          have HD4 : Hid _ := hd4
          have HB4 : Hid (Below wr.heap.size wr w4) := hb4
          have HR4 : Hid _ := HRc.out w4 hb4
          clear hd4 hb4 HCl HRc
          go_wp2_with fail
          refine Calls.mono HR4.out ?_
          rintro e w5 ⟨q', rfl, hr5, hb5⟩
          have HDc : Hid (Duo wr p' q' (runD d.sure) (rcloneD r) w5) := both_clone HDu.out HD4.out HB4.out hr5 hb5
          have HB5 : Hid (Below wr.heap.size wr w5) := HB4.out.trans (hb5.mono HB4.out.size)
          have HSa : Hid (Calls Try.prog 15 #[.pointer (some ⟨p', 0, none⟩), .pointer (some ⟨q', 0, none⟩)] w5 fun e w' => e = .returned (.bool true) ∧ Below w5.heap.size w5 w') := duo_same HDc.out (Nat.zero_le _)
          clear hr5 hb5 HD4 HB4 HR4
          go_wp2_with fail
          refine Calls.mono HSa.out ?_
          rintro e w6 ⟨rfl, hb6⟩
          have HB6 : Hid (Below wr.heap.size wr w6) := HB5.out.trans (hb6.mono HB5.out.size)
          have HDc6 : Hid (Duo wr p' q' (runD d.sure) (rcloneD r) w6) := HDc.out.at_ hb6
          have HBl : Hid (Calls Try.prog 20 #[.string ⟨#[122]⟩] w6 fun e w' => e = .returned (.string (S (blockT [122]))) ∧ Below w6.heap.size w6 w') := block_any [122] w6
          clear hb6 HSa HB5 HDc
          go_wp2_with fail
          refine Calls.mono HBl.out ?_
          rintro e w7 ⟨rfl, hb7⟩
          have HB7 : Hid (Below wr.heap.size wr w7) := HB6.out.trans (hb7.mono HB6.out.size)
          have HWr : Hid (Calls Try.prog 19 #[.pointer (some ⟨p', 0, none⟩), .int .i64 0, .string (S (blockT [122]))] w7 fun e w' => e = .returned (.int .i64 (writeD (runD d.sure) 0 (blockT [122])).1) ∧ Below wr.heap.size wr w') := by
            obtain ⟨P2, O2, hB2⟩ := HDc6.out.at_ hb7
            exact (write_dev hB2.dev 0 _ (by show (0 : Nat) < 1000000; omega)).mono fun e w' hh => ⟨hh.1, HB7.out.trans (hh.2.2.below (fun k hk => (hB2.lo k (.inl hk)).1) HB7.out.size)⟩
          have HWn : Hid ((writeD (runD d.sure) 0 (blockT [122])).1 ≠ 1) := write_not1 _ _ _
          clear hb7 HBl HB6 HDc6
          generalize S (blockT [122]) = Z at *
          generalize (writeD (runD d.sure) 0 (blockT [122])).1 = F at *
          have hF1 : (F == 1) = false := by have h1 := HWn.out; simpa using h1
          go_wp2_with fail
          refine Calls.mono HWr.out ?_
          rintro e w8 ⟨rfl, hb8⟩
          have HB8 : Hid (Below wr.heap.size wr w8) := hb8
          have HSa2 : Hid (Calls Try.prog 15 #[.pointer (some ⟨p, 0, none⟩), .pointer (some ⟨q, 0, none⟩)] w8 fun e w' => e = .returned (.bool true) ∧ Below w8.heap.size w8 w') := duo_same (HDu.out.at_ hb8) hac6
          clear hb8 HWr HB7 HDu
          go_wp2_with fail
          refine Calls.mono HSa2.out ?_
          rintro e w9 ⟨rfl, hb9⟩
          have HB9 : Hid (Below wr.heap.size wr w9) := HB8.out.trans (hb9.mono HB8.out.size)
          have HDo : Hid (Calls Try.prog 16 #[] w9 fun e w' => e = .returned (.bool true) ∧ Below w9.heap.size w9 w') := does_any w9
          clear hb9 HSa2 HB8
          go_wp2_with fail
          refine Calls.mono HDo.out ?_
          rintro e w10 ⟨rfl, hb10⟩
          have HB10 : Hid (Below w.heap.size w w10) := HBw.out.trans ((HB9.out.trans (hb10.mono HB9.out.size)).mono HBw.out.size)
          clear hb10 HDo HB9 HBw
          go_wp2
          go_ret
          exact ⟨rfl, HB10.out⟩
      · have t30b : ¬ (30 : Int) < (n : Int) := by omega
        go_wp2
        have HI0 : Hid (TellI w p q 0 w2) := ⟨newD n, rnewD n, HDu.out, Nat.le_refl _, Nat.le_refl _, Nat.zero_le _⟩
        clear HDu c0
        refine tloop (c := c) HX.out (Nat.le_refl _) hl (fun x hx => HMY.out x hx) HI0.out (by kernel_rfl) (fun _ _ t _ _ h => by cases t <;> exact h) ?_
        intro u cc m wr hm hI
        obtain ⟨d, r, hDu, hac, hst, hke⟩ := hI
        have HDu : Hid (Duo w p q d r wr) := hDu
        have hac6 : d.acts.length ≤ 60 := by omega
        have hq0 : wr.cell? ⟨q, 0, none⟩ = wr.cell? ⟨q, 0, none⟩ := rfl
        clear HI0 hq0 hke hst
        obtain ⟨P, O, hB⟩ := hDu
        have HCl : Hid (Calls Try.prog 17 #[.pointer (some ⟨p, 0, none⟩)] wr fun e w' => ∃ q, e = .returned (.pointer (some ⟨q, 0, none⟩)) ∧ Dev w' q (runD d.sure) (fun k => wr.heap.size ≤ k ∧ k < w'.heap.size) ∧ Below wr.heap.size wr w') := clone_dev hB.dev
        have HRc : Hid (∀ wz, Below wr.heap.size wr wz → Calls Try.prog 18 #[.pointer (some ⟨q, 0, none⟩)] wz fun e w' => ∃ q', e = .returned (.pointer (some ⟨q', 0, none⟩)) ∧ Ref w' q' (rcloneD r) (fun k => wz.heap.size ≤ k ∧ k < w'.heap.size) ∧ Below wz.heap.size wz w') := fun wz hb => rclone_any (hB.ref.below hb)
        have HBw : Hid (Below w.heap.size w wr) := hB.below
        clear hB
        unfold tfr
        go_wp2_with fail
        refine Calls.mono HCl.out ?_
        rintro e w4 ⟨p', rfl, hd4, hb4⟩
        have HD4 : Hid _ := hd4
        have HB4 : Hid (Below wr.heap.size wr w4) := hb4
        have HR4 : Hid _ := HRc.out w4 hb4
        clear hd4 hb4 HCl HRc
        go_wp2_with fail
        refine Calls.mono HR4.out ?_
        rintro e w5 ⟨q', rfl, hr5, hb5⟩
        have HDc : Hid (Duo wr p' q' (runD d.sure) (rcloneD r) w5) := both_clone HDu.out HD4.out HB4.out hr5 hb5
        have HB5 : Hid (Below wr.heap.size wr w5) := HB4.out.trans (hb5.mono HB4.out.size)
        have HSa : Hid (Calls Try.prog 15 #[.pointer (some ⟨p', 0, none⟩), .pointer (some ⟨q', 0, none⟩)] w5 fun e w' => e = .returned (.bool true) ∧ Below w5.heap.size w5 w') := duo_same HDc.out (Nat.zero_le _)
        clear hr5 hb5 HD4 HB4 HR4
        go_wp2_with fail
        refine Calls.mono HSa.out ?_
        rintro e w6 ⟨rfl, hb6⟩
        have HB6 : Hid (Below wr.heap.size wr w6) := HB5.out.trans (hb6.mono HB5.out.size)
        have HDc6 : Hid (Duo wr p' q' (runD d.sure) (rcloneD r) w6) := HDc.out.at_ hb6
        have HBl : Hid (Calls Try.prog 20 #[.string ⟨#[122]⟩] w6 fun e w' => e = .returned (.string (S (blockT [122]))) ∧ Below w6.heap.size w6 w') := block_any [122] w6
        clear hb6 HSa HB5 HDc
        go_wp2_with fail
        refine Calls.mono HBl.out ?_
        rintro e w7 ⟨rfl, hb7⟩
        have HB7 : Hid (Below wr.heap.size wr w7) := HB6.out.trans (hb7.mono HB6.out.size)
        have HWr : Hid (Calls Try.prog 19 #[.pointer (some ⟨p', 0, none⟩), .int .i64 0, .string (S (blockT [122]))] w7 fun e w' => e = .returned (.int .i64 (writeD (runD d.sure) 0 (blockT [122])).1) ∧ Below wr.heap.size wr w') := by
          obtain ⟨P2, O2, hB2⟩ := HDc6.out.at_ hb7
          exact (write_dev hB2.dev 0 _ (by show (0 : Nat) < 1000000; omega)).mono fun e w' hh => ⟨hh.1, HB7.out.trans (hh.2.2.below (fun k hk => (hB2.lo k (.inl hk)).1) HB7.out.size)⟩
        have HWn : Hid ((writeD (runD d.sure) 0 (blockT [122])).1 ≠ 1) := write_not1 _ _ _
        clear hb7 HBl HB6 HDc6
        generalize S (blockT [122]) = Z at *
        generalize (writeD (runD d.sure) 0 (blockT [122])).1 = F at *
        have hF1 : (F == 1) = false := by have h1 := HWn.out; simpa using h1
        go_wp2_with fail
        refine Calls.mono HWr.out ?_
        rintro e w8 ⟨rfl, hb8⟩
        have HB8 : Hid (Below wr.heap.size wr w8) := hb8
        have HSa2 : Hid (Calls Try.prog 15 #[.pointer (some ⟨p, 0, none⟩), .pointer (some ⟨q, 0, none⟩)] w8 fun e w' => e = .returned (.bool true) ∧ Below w8.heap.size w8 w') := duo_same (HDu.out.at_ hb8) hac6
        clear hb8 HWr HB7 HDu
        go_wp2_with fail
        refine Calls.mono HSa2.out ?_
        rintro e w9 ⟨rfl, hb9⟩
        have HB9 : Hid (Below wr.heap.size wr w9) := HB8.out.trans (hb9.mono HB8.out.size)
        have HDo : Hid (Calls Try.prog 16 #[] w9 fun e w' => e = .returned (.bool true) ∧ Below w9.heap.size w9 w') := does_any w9
        clear hb9 HSa2 HB8
        go_wp2_with fail
        refine Calls.mono HDo.out ?_
        rintro e w10 ⟨rfl, hb10⟩
        have HB10 : Hid (Below w.heap.size w w10) := HBw.out.trans ((HB9.out.trans (hb10.mono HB9.out.size)).mono HBw.out.size)
        clear hb10 HDo HB9 HBw
        go_wp2
        go_ret
        exact ⟨rfl, HB10.out⟩
end Go.Proofs.Ythlaackalmgfnaa

/- How a row is opened: what every seat needs. -/
namespace Go.Proofs.Ythlaackalmgfnaa
open Go.ChangeShapes Go.WideShapes Go.ChangeAt Go.RowKit

theorem own : ownKnob Try.prog.godebug = none := by kernel_rfl
theorem laidOut : laidOutB Try.prog = true := by kernel_rfl
end Go.Proofs.Ythlaackalmgfnaa

/- How what is asked of a device, as an argument, is opened. -/
namespace Go.Proofs.Ythlaackalmgfnaa
open Go.ChangeShapes Go.WideShapes Go.ChangeAt Go.RowKit

theorem cells_do : Try.prog.cellsOf 37 = 5 := by kernel_rfl
theorem cells_du8 : Try.prog.cellsOf 5 = 1 := by kernel_rfl
theorem cells_dint : Try.prog.cellsOf 3 = 1 := by kernel_rfl
theorem cells_dstr : Try.prog.cellsOf 9 = 1 := by kernel_rfl
theorem cells_dints : Try.prog.cellsOf 31 = 1 := by kernel_rfl
/-- A list of numbers that came in. -/
theorem ints_cells {H : Type} {enc : TypeId × Value → H} {W : World} {b0 fuel : Nat} {held : Bool} {c : Value} {y : DataW H × List MemPlace} (h : DataW.trod enc Try.prog W b0 (fun _ => true) held fuel 31 [c] = some y) :
    ∃ (ka : Option Addr) (k : List Int) (kc : Nat), c = .slice ka k.length kc ∧ IntsAt W c k := by
  rcases open_ints Try.underlying31 Try.underlying3 cells_dint h with ⟨hcs, _⟩ | ⟨x, l, cc, zs, hcs, _, hl, hm, hz, _, hcell, hwz⟩
  · obtain rfl : c = .slice none 0 0 := by simpa using hcs
    exact ⟨none, [], 0, rfl, none, 0, rfl, fun i n hi => by simp at hi⟩
  · obtain rfl : c = .slice (some x) l cc := by simpa using hcs
    have hz' : zs.length = cc := by simpa using hz
    refine ⟨some x, zs.take l, cc, by rw [List.length_take, Nat.min_eq_left (by omega)], some x, cc, by rw [List.length_take, Nat.min_eq_left (by omega)], fun i n hi => ?_⟩
    have hil : i < l := by have := (List.getElem?_eq_some_iff.1 hi).1; simp at this; omega
    obtain ⟨b, off, spot⟩ := x
    have h0 := hcell 0 (by omega)
    have hspot : spot = none := by simpa [Addr.add] using World.cell?_spot h0
    subst hspot
    refine ⟨b, off, rfl, ?_⟩
    have hc := hcell i (by omega)
    rw [List.getElem?_take, if_pos hil] at hi
    have e : zs.getD i 0 = n := by rw [List.getD_eq_getElem?_getD, hi]; rfl
    rw [e] at hc
    by_cases e0 : i = 0
    · subst e0; simpa [Addr.add] using hc
    · simpa [Addr.add, e0] using hc
set_option maxRecDepth 100000 in
theorem do_cells {H : Type} {enc : TypeId × Value → H} {W : World} {b0 fuel : Nat} {held : Bool} {cs : List Value} {y : DataW H × List MemPlace} (h : DataW.trod enc Try.prog W b0 (fun _ => true) held fuel 37 cs = some y) :
    ∃ x : DoX, cs = x.v.toList ∧ x.ok W := by
  obtain ⟨xs, n, _, rfl, hl, hlen, hf⟩ := DataW.trod_struct Try.underlying37 h
  rw [cells_do] at hl
  match cs, hl with
  | [c0, c1, c2, c3, c4], _ =>
    match xs, hlen with
    | [y0, y1, y2, y3, y4], _ =>
      have f0 : DataW.trod enc Try.prog W b0 (fun _ => true) held n 5 [c0] = some y0 := by
        have g : DataW.trod enc Try.prog W b0 (fun _ => true) held n 5 (([c0, c1, c2, c3, c4].drop 0).take (Try.prog.cellsOf 5)) = some y0 := hf 0 _ rfl
        rw [cells_du8] at g
        exact g
      have f1 : DataW.trod enc Try.prog W b0 (fun _ => true) held n 3 [c1] = some y1 := by
        have g : DataW.trod enc Try.prog W b0 (fun _ => true) held n 3 (([c0, c1, c2, c3, c4].drop 1).take (Try.prog.cellsOf 3)) = some y1 := hf 1 _ rfl
        rw [cells_dint] at g
        exact g
      have f2 : DataW.trod enc Try.prog W b0 (fun _ => true) held n 3 [c2] = some y2 := by
        have g : DataW.trod enc Try.prog W b0 (fun _ => true) held n 3 (([c0, c1, c2, c3, c4].drop 2).take (Try.prog.cellsOf 3)) = some y2 := hf 2 _ rfl
        rw [cells_dint] at g
        exact g
      have f3 : DataW.trod enc Try.prog W b0 (fun _ => true) held n 9 [c3] = some y3 := by
        have g : DataW.trod enc Try.prog W b0 (fun _ => true) held n 9 (([c0, c1, c2, c3, c4].drop 3).take (Try.prog.cellsOf 9)) = some y3 := hf 3 _ rfl
        rw [cells_dstr] at g
        exact g
      have f4 : DataW.trod enc Try.prog W b0 (fun _ => true) held n 31 [c4] = some y4 := by
        have g : DataW.trod enc Try.prog W b0 (fun _ => true) held n 31 (([c0, c1, c2, c3, c4].drop 4).take (Try.prog.cellsOf 31)) = some y4 := hf 4 _ rfl
        rw [cells_dints] at g
        exact g
      obtain ⟨q, hq, _, wq⟩ := DataW.trod_int (fuel := n) (cs := [c0]) Try.underlying5 f0
      obtain ⟨i, hi, _, wi⟩ := DataW.trod_int (fuel := n) (cs := [c1]) Try.underlying3 f1
      obtain ⟨m, hm, _, wm⟩ := DataW.trod_int (fuel := n) (cs := [c2]) Try.underlying3 f2
      obtain ⟨s, hs, _, _⟩ := DataW.trod_string (fuel := n) (cs := [c3]) Try.underlying9 f3
      obtain ⟨ka, k, kc, hk, hki⟩ := ints_cells (fuel := n) (c := c4) f4
      have bq := bounds_u8 wq
      have bi := bounds_i64 wi
      have bm := bounds_i64 wm
      refine ⟨⟨q.toNat, i, m, s.data.toList, k, ka, kc⟩, ?_, ⟨by show q.toNat < 256; omega, by show i < _; omega, by show m < _; omega, ?_⟩⟩
      · have e0 : c0 = .int .u8 ((q.toNat : Nat) : Int) := by rw [show ((q.toNat : Nat) : Int) = q by omega]; exact (List.cons.inj hq).1
        have e1 : c1 = .int .i64 i := (List.cons.inj hi).1
        have e2 : c2 = .int .i64 m := (List.cons.inj hm).1
        have e3 : c3 = .string (S s.data.toList) := by rw [S_data]; exact (List.cons.inj hs).1
        rw [e0, e1, e2, e3, hk]
        rfl
      · rw [hk] at hki
        exact hki
set_option maxRecDepth 100000 in
theorem open_do {H : Type} {enc : TypeId × Value → H} {W : World} {base b0 : Nat} {held : Bool} {v : Value} {d : DataW H} {p : List MemPlace}
    (hval : Value.okWide Try.prog W .any base 37 v) (h : DataW.Trod enc Try.prog W b0 (fun _ => true) held 37 v d p) :
    ∃ x : DoX, v = .agg x.v ∧ x.ok W := by
  obtain ⟨cs, rfl, hsz⟩ := okWide_struct Try.underlying37 hval
  obtain ⟨fuel, hf⟩ := h
  obtain ⟨x, hx, hok⟩ := do_cells (cs := cs.toList) (by simpa [Value.cells] using hf)
  exact ⟨x, by rw [Array.toList_inj.1 hx], hok⟩
end Go.Proofs.Ythlaackalmgfnaa

/- How a list of what is asked of a device, as an argument, is opened. -/
namespace Go.Proofs.Ythlaackalmgfnaa
open Go.ChangeShapes Go.WideShapes Go.ChangeAt Go.RowKit

set_option maxRecDepth 100000 in
theorem dos_cells {H : Type} {enc : TypeId × Value → H} {W : World} {b0 fuel : Nat} {held : Bool} {c : Value} {y : DataW H × List MemPlace} (h : DataW.trod enc Try.prog W b0 (fun _ => true) held fuel 22 [c] = some y) :
    ∃ (a : Option Addr) (xs : List DoX) (cc : Nat), c = .slice a xs.length cc ∧ DosAt W a xs := by
  rcases DataW.trod_slice Try.underlying22 h with ⟨hcs, _⟩ | ⟨a, len, cap, elems, rest, n, _, hcs, _, hb, hl, hm, hlen, hel, hsp, hns⟩
  · obtain rfl : c = .slice none 0 0 := by simpa using hcs
    exact ⟨none, [], 0, rfl, fun j x hj => by simp at hj⟩
  · obtain rfl : c = .slice (some a) len cap := by simpa using hcs
    have each : ∀ i, i < len → ∃ cs x, W.cells? b0 (a.add (i * 5)) 5 = some cs ∧ cs = (DoX.v x).toList ∧ DoX.ok W x := fun i hi => by
      have h1 := hel i hi
      rw [cells_do, List.getElem?_eq_getElem (by omega)] at h1
      cases hc : W.cells? b0 (a.add (i * 5)) 5 with
      | none => rw [hc] at h1; cases h1
      | some cs =>
        rw [hc] at h1
        obtain ⟨x, hx1, hx2⟩ := do_cells (cs := cs) h1
        exact ⟨cs, x, rfl, hx1, hx2⟩
    refine ⟨some a, (List.range len).map fun i => if h : i < len then (each i h).choose_spec.choose else ⟨0, 0, 0, [], [], none, 0⟩, cap, by simp, fun j x hj => ?_⟩
    have hjl : j < len := by have := (List.getElem?_eq_some_iff.1 hj).1; simpa using this
    rw [List.getElem?_map, List.getElem?_range hjl] at hj
    simp only [Option.map_some, dif_pos hjl, Option.some.injEq] at hj
    obtain ⟨h1, h2, h3⟩ := (each j hjl).choose_spec.choose_spec
    rw [hj] at h2 h3
    refine ⟨h3, ?_⟩
    obtain ⟨b, off, spot⟩ := a
    obtain ⟨_, hcl, hcc⟩ := World.cells?_some h1
    rw [h2] at hcl hcc
    have hspot : spot = none := by
      obtain ⟨cs0, x0, g1, g2, _⟩ := each 0 (by omega)
      obtain ⟨_, _, gcc⟩ := World.cells?_some g1
      have c0 := gcc 0 (by omega)
      rw [g2, show x0.v.toList[0]? = some (Value.int .u8 (x0.q : Int)) from rfl] at c0
      simpa [Addr.add] using World.cell?_spot c0
    subst hspot
    refine ⟨b, off, rfl, fun i v hv => ?_⟩
    have hi : i < 5 := by have := (List.getElem?_eq_some_iff.1 hv).1; rw [DoX.size] at this; exact this
    have hc := hcc i hi
    rw [Addr.add_mid, Addr.add_mid] at hc
    rw [hc]; exact hv
set_option maxRecDepth 100000 in
theorem open_dos {H : Type} {enc : TypeId × Value → H} {W : World} {base b0 : Nat} {held : Bool} {v : Value} {d : DataW H} {p : List MemPlace}
    (_ : Value.okWide Try.prog W .any base 22 v) (h : DataW.Trod enc Try.prog W b0 (fun _ => true) held 22 v d p) :
    ∃ (a : Option Addr) (cc : Nat) (xs : List DoX), v = .slice a xs.length cc ∧ DosAt W a xs := by
  rename_i hval
  obtain ⟨a0, len, cap, rfl⟩ := okWide_slice Try.underlying22 hval
  obtain ⟨fuel, hf⟩ := h
  obtain ⟨a, xs, cc, h1, h2⟩ := dos_cells (c := .slice a0 len cap) (by simpa [Value.cells] using hf)
  exact ⟨a, cc, xs, h1, h2⟩
end Go.Proofs.Ythlaackalmgfnaa

/- How a list of what is asked of a device, as an argument, is opened: with its room. -/
namespace Go.Proofs.Ythlaackalmgfnaa
open Go.ChangeShapes Go.WideShapes Go.ChangeAt Go.RowKit

set_option maxRecDepth 100000 in
theorem open_dosC {H : Type} {enc : TypeId × Value → H} {W : World} {base b0 : Nat} {held : Bool} {v : Value} {d : DataW H} {p : List MemPlace}
    (hval : Value.okWide Try.prog W .any base 22 v) (h : DataW.Trod enc Try.prog W b0 (fun _ => true) held 22 v d p) :
    ∃ (a : Option Addr) (cc : Nat) (xs : List DoX), v = .slice a xs.length cc ∧ (DosAt W a xs ∧ xs.length ≤ cc) := by
  obtain ⟨a, cc, xs, rfl, h2⟩ := open_dos hval h
  refine ⟨a, cc, xs, rfl, h2, ?_⟩
  obtain ⟨fuel, hf⟩ := h
  have hf' : DataW.trod enc Try.prog W b0 (fun _ => true) held fuel 22 [.slice a xs.length cc] = some (d, p) := by simpa [Value.cells] using hf
  rcases DataW.trod_slice Try.underlying22 hf' with ⟨hcs, _⟩ | ⟨a', len, cap, elems, rest, n, _, hcs, _, hb, hl, _⟩
  · simp at hcs
    obtain ⟨-, e, -⟩ := hcs
    rw [e]; exact Nat.zero_le _
  · simp at hcs
    obtain ⟨-, e1, e2⟩ := hcs
    omega
end Go.Proofs.Ythlaackalmgfnaa

namespace Go.Proofs.Ythlaackalmgfnaa.deviceTell
open Go.ChangeShapes Go.WideShapes Go.ChangeAt Go.RowKit

set_option maxRecDepth 100000 in
theorem contract (H : Type) (enc : TypeId × Value → H) (W : World) (base : Nat) (args : Array Value) (ds gs : List (DataW H)) (before : List MemPlace)
    (hval : ∀ (j : Nat) t v, Try.f3.params[j]? = some t → args[j]? = some v → Value.okWide Try.prog W .any base t v)
    (hW : DataW.Whole enc Try.prog Try.f3.params.toList Rows.deviceTellSpec.vars false W args.toList ds gs before) :
    Calls Try.prog 3 args W fun e W' => ∃ v, e = .returned v ∧ Rows.deviceTellSpec.post enc Try.prog Try.f3 false true false false W args v W' := by
  have hW' := hW
  obtain ⟨p, q, hA0, hV, rfl, hfz, hnd⟩ := hW
  have hA : DataW.TrodAll enc Try.prog W 0 (fun _ => true) true Try.f3.params.toList args.toList ds p := hA0
  rw [Try.params3] at hA hval
  obtain ⟨v0, vs0, d0, ds0, p0, q0, hargs, rfl, rfl, h0, r0⟩ := trodAll_cons hA
  obtain ⟨v1, vs1, d1, ds1, p1, q1, rfl, rfl, rfl, h1, r1⟩ := trodAll_cons r0
  obtain ⟨rfl, rfl, rfl⟩ := trodAll_nil r1
  obtain rfl : args = #[v0, v1] := by cases args; simp_all
  obtain ⟨rfl, rfl⟩ := trodVars_none hV
  have k0 := h0
  have lt0 : ∀ x ∈ p0, x.block < W.heap.size := by obtain ⟨m, hm⟩ := k0; exact DataW.trod_lt m _ _ _ hm
  have k1 := h1
  have lt1 : ∀ x ∈ p1, x.block < W.heap.size := by obtain ⟨m, hm⟩ := k1; exact DataW.trod_lt m _ _ _ hm
  obtain ⟨n, rfl, rfl, rfl, w0⟩ := open_int Try.underlying3 (hval 0 3 v0 rfl rfl) h0
  have b0 := bounds_i64 w0
  obtain ⟨lA, lC, l, rfl, b1⟩ := open_dosC (hval 1 22 v1 rfl rfl) h1
  clear hA0
  simp only [List.append_nil] at hW'
  refine (tell_law lC b1 n).mono fun e W' ⟨he, bel⟩ => ?_
  subst he
  exact ⟨_, rfl, _, _, _, [], _, [], hW', trodAll_mk1 (shut_bool Try.underlying4 _), (trodAll_cons_mk (Below.trod laidOut (by kernel_rfl) (of_decide_eq_true (by kernel_rfl)) k0 bel lt0) (trodAll_cons_mk (Below.trod laidOut (by kernel_rfl) (of_decide_eq_true (by kernel_rfl)) k1 bel lt1) trodAll_mk0)), rfl, bel.frame _, fun h => by cases h⟩

theorem laid_met (os : Os) : laidMet Try.prog Rows.deviceTellRow.laid ((World.holding Try.prog os ⟨#[], #[], []⟩).forCall (fun _ _ => 0) ⟨#[], #[Value.int .i64 0, .slice none 0 0], []⟩).memory := laidMet_of_run' 8 (by kernel_rfl) (by kernel_rfl)
theorem reads (os : Os) {H : Type} (enc : TypeId × Value → H) : ∃ places, DataW.whole enc Try.prog ((World.holding Try.prog os ⟨#[], #[], []⟩).forCall (fun _ _ => 0) ⟨#[], #[Value.int .i64 0, .slice none 0 0], []⟩).memory Try.f3.params.toList Rows.deviceTellSpec.vars false #[Value.int .i64 0, .slice none 0 0].toList 8 = some ([.lit (.int .i64 0), .nil], [], places) :=
  ⟨[], by kernel_rfl⟩

set_option maxRecDepth 100000 in
theorem lifted (os : Os) (started : os.Started) (H : Type) (enc : TypeId × Value → H) (F : Stop.Interp) :
    ReturnsInHanded {} Try.checked os 3 .any ((OpenSpec.ofChange Rows.deviceTellSpec).preRow enc Try.prog Try.f3 Rows.deviceTellRow.domain false Rows.deviceTellRow.laid) (((OpenSpec.ofChange Rows.deviceTellSpec).at F).post enc Try.prog Try.f3 false true false false) := by
  obtain ⟨places, hx⟩ := reads os enc
  refine returnsInHanded_of_row (C := Try.checked) (s := OpenSpec.ofChange Rows.deviceTellSpec) own started (by kernel_rfl) Try.func3
    (witness_row_at (enc := enc) (C := Try.checked) false _ #[Value.int .i64 0, .slice none 0 0] rfl (by kernel_rfl) (by kernel_rfl) (by kernel_rfl)
      (OpenSpec.preRow_of_cond 8 hx (by kernel_rfl) (fun k hk => by cases hk) (by kernel_rfl) (laid_met os))) ?_
  intro W base args ds gs before hval hW _ _ _ _ _ _
  exact contract H enc W base args ds gs before hval hW

theorem said : Rows.DeviceTellSaid :=
  OpenClaim.holds_of_cond 3 Try.f3 rfl rfl rfl rfl rfl rfl rfl ⟨rfl, rfl, rfl, rfl, rfl⟩ rfl rfl rfl rfl rfl (by kernel_rfl) Try.func3 (by kernel_rfl)
    (of_decide_eq_true (by kernel_rfl)) (by unfold Func.isWrapper; first | (rw [if_pos (by decide +kernel)]; kernel_rfl) | (rw [if_neg (by decide +kernel)]; exact ⟨rfl, rfl⟩))
    (fun os started H enc _ F => by rw [OpenClaim.pre_eq_preRow]; exact lifted os started H enc F)
end Go.Proofs.Ythlaackalmgfnaa.deviceTell
