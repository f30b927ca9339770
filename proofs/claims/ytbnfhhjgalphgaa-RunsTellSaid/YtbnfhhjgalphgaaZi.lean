/- The program's Free (layer 7). -/
import Derived.Test.YtbnfhhjgalphgaaZh
import Derived.Test.YtbnfhhjgalphgaaZd
namespace Go.Proofs.Ytbnfhhjgalphgaa
open Go.RowKit

set_option maxRecDepth 100000 in
set_option maxHeartbeats 4000000 in
theorem free_any {w : World} {v : Value} {st : List Int} (h : NumsAt w v st) (hq : ∀ a n c, v = .slice a n c → n ≤ c) (hl : st.length ≤ 100000) :
    Calls Try.prog 21 #[v] w fun e w' => ∃ a c, e = .returned (.slice a (freeL st).length c) ∧ Mr w w.heap.size [] (.slice a (freeL st).length c) (freeL st) w' := by
  obtain ⟨a, q, rfl, -⟩ := id h
  have hcap : st.length ≤ q := hq _ _ _ rfl
  have HL : Hid _ := h.cells.2
  have HRa : Hid (∀ w', Below w.heap.size w w' → NumsAt w' (.slice a st.length q) st) := fun w' hb => h.below hb
  have HM0 : Hid (Mr w w.heap.size [] (.slice none 0 0) [] w) := Mr.start (Below.refl _ _) (fun v l h => (by cases h))
  have HFr : Hid (freeL st = freeN st st.length) := by show _ = _; rfl
  have HLe : Hid (∀ m, (freeN st m).length ≤ m) := freeN_len st
  clear h hq
  obtain ⟨N, hN⟩ : ∃ N, st.length = N := ⟨_, rfl⟩
  have HN : Hid (st.length = N) := hN
  rw [hN] at HRa hcap hl HFr
  clear hN
  go_enter Try.func21, Try.ntmps21
  rw [HN.out]
  go_wp2
  go_loopw [3, 4] (fun ov iv wr => ∃ m : Nat, m ≤ N ∧ iv = .int .i64 m ∧ (m = 0 ∨ blankB st m = false) ∧ ∃ xa xc, ov = .slice xa (freeN st m).length xc ∧ Mr w w.heap.size [] (.slice xa (freeN st m).length xc) (freeN st m) wr) (fun _ iv _ => N - (intOf iv).toNat)
  case atStart => exact ⟨0, Nat.zero_le _, rfl, .inl rfl, none, 0, rfl, HM0.out⟩
  case round =>
    obtain ⟨m, hm, rfl, hinv, xa, xc, rfl, hM⟩ := hrel
    by_cases hlt : m < N
    rotate_left
    · obtain rfl : m = N := by omega
      have hlt2 : ¬ ((m : Nat) : Int) < (m : Int) := by omega
      have HM : Hid _ := hM
      clear hM HM0
      go_wp2
      go_ret
      exact ⟨xa, xc, by rw [HFr.out]; rfl, by rw [HFr.out]; exact HM.out⟩
    obtain ⟨x, hx⟩ : ∃ x, st[m]? = some x := ⟨_, List.getElem?_eq_getElem (by have := HN.out; omega)⟩
    obtain ⟨b, o, rfl, -⟩ := HL.out m x hx
    have hlt2 : (m : Int) < (N : Int) := by omega
    have b1 : (m : Int) ≤ (N : Int) := by omega
    have b2 : (m : Int) ≤ (q : Int) := by omega
    have b3 : (N : Int) ≤ (q : Int) := by omega
    have hqm : (q = m) = False := eq_false (by omega)
    have hR1 := (HRa.out wr hM.below).rest m (by omega) hcap
    rw [if_neg (by omega)] at hR1
    obtain ⟨n, hn⟩ : ∃ n, n = findI (fun s => s == 0) (st.drop m) := ⟨_, rfl⟩
    obtain ⟨c, hc⟩ : ∃ c, c = findI (fun s => s != 0) (st.drop (m + n)) := ⟨_, rfl⟩
    obtain ⟨r1, r2, r3, r4⟩ := free_round (by have := HN.out; omega) hinv hn hc
    rw [HN.out] at r1
    have HF1 : Hid (Calls Try.prog 32 #[.slice (some ⟨b, o + m, none⟩) (N - m) (q - m), .func (.func 33) #[] #[]] wr fun e w' => e = .returned (.int .i64 n) ∧ Below wr.heap.size wr w') := by
      rw [hn]; exact findI_any _ hR1 (by rw [List.length_drop]; have := HN.out; omega) eg_free1 free1_any
    have HF2 : Hid (∀ (w2 : World) (a' : Option Addr), NumsAt w2 (.slice a' (N - (m + n)) (q - (m + n))) (st.drop (m + n)) → Calls Try.prog 32 #[.slice a' (N - (m + n)) (q - (m + n)), .func (.func 34) #[] #[]] w2 fun e w' => e = .returned (.int .i64 c) ∧ Below w2.heap.size w2 w') := fun w2 a' hh => by
      rw [hc]; exact findI_any _ hh (by rw [List.length_drop]; have := HN.out; omega) eg_free2 free2_any
    have HR3 : Hid _ := r3
    have HR4 : Hid (m + n + c = 0 ∨ blankB st (m + n + c) = false) := r4
    have HM : Hid _ := hM
    clear hn hc r3 r4 hM hinv hx HM0 hR1
    have hw1 : wrap64 ((m : Int) + (n : Int)) = (m : Int) + (n : Int) := by unfold wrap64; omega
    have hw2 : wrap64 ((m : Int) + (n : Int) + (c : Int)) = (m : Int) + (n : Int) + (c : Int) := by unfold wrap64; omega
    have b4 : (m : Int) + (n : Int) ≤ (N : Int) := by omega
    have b5 : (m : Int) + (n : Int) ≤ (q : Int) := by omega
    have b6 : (0 : Int) ≤ (m : Int) + (n : Int) := by omega
    have b7 : ¬ ((m : Int) + (n : Int) < 0) := by omega
    have b8 : m + n ≤ q := by omega
    have hnat : ((m : Int) + (n : Int)).toNat = m + n := by omega
    go_wp2_with fail
    refine HF1.out.mono ?_
    rintro e w2 ⟨rfl, k2⟩
    have HM : Mr w w.heap.size [] (.slice xa (freeN st m).length xc) (freeN st m) w2 := HM.out.next k2
    have hR2 := (HRa.out w2 HM.below).rest (m + n) (by omega) hcap
    have HM : Hid _ := HM
    clear k2 HF1
    by_cases hqs : q = m + n
    · have hqt : (q = m + n) = True := eq_true hqs
      rw [if_pos hqs] at hR2
      clear hqs
      go_wp2_with fail
      refine (HF2.out w2 _ hR2).mono ?_
      rintro e w3 ⟨rfl, k3⟩
      have HM := HM.out.next k3
      clear k3 hR2 HF2 hqt
      by_cases hc0 : 0 < c
      · have hc1 : (c : Int) > 0 := by omega
        have hR : RunsAt (w3.alloc (.cells #[.int .i64 ((m : Int) + (n : Int)), .int .i64 (c : Int)] 24)) (.slice (some ⟨w3.heap.size, 0, none⟩) 1 1) [⟨(m : Int) + (n : Int), c⟩] := RunsAt.made w3 _ _
        have HM := HM.alloc (.cells #[.int .i64 ((m : Int) + (n : Int)), .int .i64 (c : Int)] 24)
        have HR5 : Hid (freeN st m ++ [⟨(m : Int) + (n : Int), c⟩] = freeN st (m + n + c)) := by show _ = _; rw [HR3.out, if_pos hc0]; rfl
        have hle : Hid ((freeN st (m + n + c)).length ≤ 1000000) := by show _ ≤ _; have := HLe.out (m + n + c); omega
        clear HR3
        generalize freeN st m = M at *
        generalize hZ : freeN st (m + n + c) = Z at *
        have HZ : Hid (freeN st (m + n + c) = Z) := hZ
        clear hZ
        go_wp2_with (first | (refine wpList_append_mz rfl (.tmp 23) (.tmp 27) rfl HM _ _ Z Z.length rfl rfl hR HR5.out rfl hle.out ?_; intro ya yc w4 _ HM2; have HM2 : Hid _ := HM2; clear HM hR) | fail)
        go_roundw
        case rel => exact ⟨m + n + c, by omega, by go_num, HR4.out, ya, yc, by rw [HZ.out], by rw [HZ.out]; exact HM2.out⟩
        case measure => simp [intOf]; omega
      · obtain rfl : c = 0 := by omega
        have HR5 : Hid (freeN st (m + n + 0) = freeN st m) := by show _ = _; rw [HR3.out, if_neg hc0]
        have HM : Hid _ := HM
        clear HR3
        go_wp2
        go_roundw
        case rel => exact ⟨m + n + 0, by omega, by go_num, HR4.out, xa, xc, by rw [HR5.out], by rw [HR5.out]; exact HM.out⟩
        case measure => simp [intOf]; omega
    · have hqt : (q = m + n) = False := eq_false hqs
      rw [if_neg hqs] at hR2
      clear hqs
      go_wp2_with fail
      refine (HF2.out w2 _ hR2).mono ?_
      rintro e w3 ⟨rfl, k3⟩
      have HM := HM.out.next k3
      clear k3 hR2 HF2 hqt
      by_cases hc0 : 0 < c
      · have hc1 : (c : Int) > 0 := by omega
        have hR : RunsAt (w3.alloc (.cells #[.int .i64 ((m : Int) + (n : Int)), .int .i64 (c : Int)] 24)) (.slice (some ⟨w3.heap.size, 0, none⟩) 1 1) [⟨(m : Int) + (n : Int), c⟩] := RunsAt.made w3 _ _
        have HM := HM.alloc (.cells #[.int .i64 ((m : Int) + (n : Int)), .int .i64 (c : Int)] 24)
        have HR5 : Hid (freeN st m ++ [⟨(m : Int) + (n : Int), c⟩] = freeN st (m + n + c)) := by show _ = _; rw [HR3.out, if_pos hc0]; rfl
        have hle : Hid ((freeN st (m + n + c)).length ≤ 1000000) := by show _ ≤ _; have := HLe.out (m + n + c); omega
        clear HR3
        generalize freeN st m = M at *
        generalize hZ : freeN st (m + n + c) = Z at *
        have HZ : Hid (freeN st (m + n + c) = Z) := hZ
        clear hZ
        go_wp2_with (first | (refine wpList_append_mz rfl (.tmp 23) (.tmp 27) rfl HM _ _ Z Z.length rfl rfl hR HR5.out rfl hle.out ?_; intro ya yc w4 _ HM2; have HM2 : Hid _ := HM2; clear HM hR) | fail)
        go_roundw
        case rel => exact ⟨m + n + c, by omega, by go_num, HR4.out, ya, yc, by rw [HZ.out], by rw [HZ.out]; exact HM2.out⟩
        case measure => simp [intOf]; omega
      · obtain rfl : c = 0 := by omega
        have HR5 : Hid (freeN st (m + n + 0) = freeN st m) := by show _ = _; rw [HR3.out, if_neg hc0]
        have HM : Hid _ := HM
        clear HR3
        go_wp2
        go_roundw
        case rel => exact ⟨m + n + 0, by omega, by go_num, HR4.out, xa, xc, by rw [HR5.out], by rw [HR5.out]; exact HM.out⟩
        case measure => simp [intOf]; omega
end Go.Proofs.Ytbnfhhjgalphgaa
