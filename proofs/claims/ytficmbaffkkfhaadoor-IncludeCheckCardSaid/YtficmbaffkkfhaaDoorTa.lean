/- Contracts of the document's own rotr, Size and Put (of eight bytes), message. -/
import Derived.Test.YtficmbaffkkfhaaDoorSd
import Derived.Deep.QuietTactic
import Derived.BigQuiet
namespace Go.Proofs.YtficmbaffkkfhaaDoor
open Go.RowKit

theorem rotr_2 (x : W32) (w : World) :
    Calls Tryd.prog 52 #[.int .u32 (iw x), .int .i64 2] w fun e w' => e = .returned (.int .u32 (iw (rr x 2))) ∧ ∃ m, w' = w.drewN m := by
  have h0 := iw_nonneg x
  have h1 := iw_lt x
  have e : Hid (bits .or .u32 (iw x / 4) (IntKind.u32.wrap (iw x * 1073741824)) = iw (rr x 2)) := rr_2' x
  generalize iw (rr x 2) = R at *
  generalize iw x = X at *
  have hw : IntKind.i64.wrap (32 - 2) = 30 := by kernel_rfl
  go_enter Tryd.func52, Tryd.ntmps52
  go_wp2
  go_quiet (fail)
  go_wp2
  go_ret
  rw [← IntKind.wrap_u32']
  exact ⟨ret_w e.out, _, rfl⟩
theorem rotr_6 (x : W32) (w : World) :
    Calls Tryd.prog 52 #[.int .u32 (iw x), .int .i64 6] w fun e w' => e = .returned (.int .u32 (iw (rr x 6))) ∧ ∃ m, w' = w.drewN m := by
  have h0 := iw_nonneg x
  have h1 := iw_lt x
  have e : Hid (bits .or .u32 (iw x / 64) (IntKind.u32.wrap (iw x * 67108864)) = iw (rr x 6)) := rr_6' x
  generalize iw (rr x 6) = R at *
  generalize iw x = X at *
  have hw : IntKind.i64.wrap (32 - 6) = 26 := by kernel_rfl
  go_enter Tryd.func52, Tryd.ntmps52
  go_wp2
  go_quiet (fail)
  go_wp2
  go_ret
  rw [← IntKind.wrap_u32']
  exact ⟨ret_w e.out, _, rfl⟩
theorem rotr_7 (x : W32) (w : World) :
    Calls Tryd.prog 52 #[.int .u32 (iw x), .int .i64 7] w fun e w' => e = .returned (.int .u32 (iw (rr x 7))) ∧ ∃ m, w' = w.drewN m := by
  have h0 := iw_nonneg x
  have h1 := iw_lt x
  have e : Hid (bits .or .u32 (iw x / 128) (IntKind.u32.wrap (iw x * 33554432)) = iw (rr x 7)) := rr_7' x
  generalize iw (rr x 7) = R at *
  generalize iw x = X at *
  have hw : IntKind.i64.wrap (32 - 7) = 25 := by kernel_rfl
  go_enter Tryd.func52, Tryd.ntmps52
  go_wp2
  go_quiet (fail)
  go_wp2
  go_ret
  rw [← IntKind.wrap_u32']
  exact ⟨ret_w e.out, _, rfl⟩
theorem rotr_11 (x : W32) (w : World) :
    Calls Tryd.prog 52 #[.int .u32 (iw x), .int .i64 11] w fun e w' => e = .returned (.int .u32 (iw (rr x 11))) ∧ ∃ m, w' = w.drewN m := by
  have h0 := iw_nonneg x
  have h1 := iw_lt x
  have e : Hid (bits .or .u32 (iw x / 2048) (IntKind.u32.wrap (iw x * 2097152)) = iw (rr x 11)) := rr_11' x
  generalize iw (rr x 11) = R at *
  generalize iw x = X at *
  have hw : IntKind.i64.wrap (32 - 11) = 21 := by kernel_rfl
  go_enter Tryd.func52, Tryd.ntmps52
  go_wp2
  go_quiet (fail)
  go_wp2
  go_ret
  rw [← IntKind.wrap_u32']
  exact ⟨ret_w e.out, _, rfl⟩
theorem rotr_13 (x : W32) (w : World) :
    Calls Tryd.prog 52 #[.int .u32 (iw x), .int .i64 13] w fun e w' => e = .returned (.int .u32 (iw (rr x 13))) ∧ ∃ m, w' = w.drewN m := by
  have h0 := iw_nonneg x
  have h1 := iw_lt x
  have e : Hid (bits .or .u32 (iw x / 8192) (IntKind.u32.wrap (iw x * 524288)) = iw (rr x 13)) := rr_13' x
  generalize iw (rr x 13) = R at *
  generalize iw x = X at *
  have hw : IntKind.i64.wrap (32 - 13) = 19 := by kernel_rfl
  go_enter Tryd.func52, Tryd.ntmps52
  go_wp2
  go_quiet (fail)
  go_wp2
  go_ret
  rw [← IntKind.wrap_u32']
  exact ⟨ret_w e.out, _, rfl⟩
theorem rotr_17 (x : W32) (w : World) :
    Calls Tryd.prog 52 #[.int .u32 (iw x), .int .i64 17] w fun e w' => e = .returned (.int .u32 (iw (rr x 17))) ∧ ∃ m, w' = w.drewN m := by
  have h0 := iw_nonneg x
  have h1 := iw_lt x
  have e : Hid (bits .or .u32 (iw x / 131072) (IntKind.u32.wrap (iw x * 32768)) = iw (rr x 17)) := rr_17' x
  generalize iw (rr x 17) = R at *
  generalize iw x = X at *
  have hw : IntKind.i64.wrap (32 - 17) = 15 := by kernel_rfl
  go_enter Tryd.func52, Tryd.ntmps52
  go_wp2
  go_quiet (fail)
  go_wp2
  go_ret
  rw [← IntKind.wrap_u32']
  exact ⟨ret_w e.out, _, rfl⟩
theorem rotr_18 (x : W32) (w : World) :
    Calls Tryd.prog 52 #[.int .u32 (iw x), .int .i64 18] w fun e w' => e = .returned (.int .u32 (iw (rr x 18))) ∧ ∃ m, w' = w.drewN m := by
  have h0 := iw_nonneg x
  have h1 := iw_lt x
  have e : Hid (bits .or .u32 (iw x / 262144) (IntKind.u32.wrap (iw x * 16384)) = iw (rr x 18)) := rr_18' x
  generalize iw (rr x 18) = R at *
  generalize iw x = X at *
  have hw : IntKind.i64.wrap (32 - 18) = 14 := by kernel_rfl
  go_enter Tryd.func52, Tryd.ntmps52
  go_wp2
  go_quiet (fail)
  go_wp2
  go_ret
  rw [← IntKind.wrap_u32']
  exact ⟨ret_w e.out, _, rfl⟩
theorem rotr_19 (x : W32) (w : World) :
    Calls Tryd.prog 52 #[.int .u32 (iw x), .int .i64 19] w fun e w' => e = .returned (.int .u32 (iw (rr x 19))) ∧ ∃ m, w' = w.drewN m := by
  have h0 := iw_nonneg x
  have h1 := iw_lt x
  have e : Hid (bits .or .u32 (iw x / 524288) (IntKind.u32.wrap (iw x * 8192)) = iw (rr x 19)) := rr_19' x
  generalize iw (rr x 19) = R at *
  generalize iw x = X at *
  have hw : IntKind.i64.wrap (32 - 19) = 13 := by kernel_rfl
  go_enter Tryd.func52, Tryd.ntmps52
  go_wp2
  go_quiet (fail)
  go_wp2
  go_ret
  rw [← IntKind.wrap_u32']
  exact ⟨ret_w e.out, _, rfl⟩
theorem rotr_22 (x : W32) (w : World) :
    Calls Tryd.prog 52 #[.int .u32 (iw x), .int .i64 22] w fun e w' => e = .returned (.int .u32 (iw (rr x 22))) ∧ ∃ m, w' = w.drewN m := by
  have h0 := iw_nonneg x
  have h1 := iw_lt x
  have e : Hid (bits .or .u32 (iw x / 4194304) (IntKind.u32.wrap (iw x * 1024)) = iw (rr x 22)) := rr_22' x
  generalize iw (rr x 22) = R at *
  generalize iw x = X at *
  have hw : IntKind.i64.wrap (32 - 22) = 10 := by kernel_rfl
  go_enter Tryd.func52, Tryd.ntmps52
  go_wp2
  go_quiet (fail)
  go_wp2
  go_ret
  rw [← IntKind.wrap_u32']
  exact ⟨ret_w e.out, _, rfl⟩
theorem rotr_25 (x : W32) (w : World) :
    Calls Tryd.prog 52 #[.int .u32 (iw x), .int .i64 25] w fun e w' => e = .returned (.int .u32 (iw (rr x 25))) ∧ ∃ m, w' = w.drewN m := by
  have h0 := iw_nonneg x
  have h1 := iw_lt x
  have e : Hid (bits .or .u32 (iw x / 33554432) (IntKind.u32.wrap (iw x * 128)) = iw (rr x 25)) := rr_25' x
  generalize iw (rr x 25) = R at *
  generalize iw x = X at *
  have hw : IntKind.i64.wrap (32 - 25) = 7 := by kernel_rfl
  go_enter Tryd.func52, Tryd.ntmps52
  go_wp2
  go_quiet (fail)
  go_wp2
  go_ret
  rw [← IntKind.wrap_u32']
  exact ⟨ret_w e.out, _, rfl⟩
theorem rq_size8 (w : World) : Calls Tryd.prog 62 #[.int .i64 8] w fun e w' => e = .returned (.bool true) ∧ w' = w := by
  go_enter Tryd.func62, Tryd.ntmps62
  go_wp2
  go_ret
  exact ⟨rfl, rfl⟩
theorem one_str (n : Int) (h0 : 0 ≤ n) (h1 : n < 256) (w : World) : (convert 60 9 (.slice (some ⟨w.heap.size, 0, none⟩) 1 1)).run Tryd.prog (w.alloc (.cells #[.int .u8 n] 5)) = .ok (.string (S [by8 n])) (w.alloc (.cells #[.int .u8 n] 5)) := by
  have e : (#[.int .u8 n] : Array Value) = hv [by8 n] := by
    simp only [hv, List.map]
    rw [by8_num, Int.emod_eq_of_lt h0 h1]
  rw [e]
  exact conv_row [by8 n] _ _ 1 _ _ (heap_alloc_last w _)
set_option maxRecDepth 100000 in
set_option maxHeartbeats 800000 in
theorem rq_put8 (n : Nat) (w : World) (hn : n ≤ 17592186044416) :
    Calls Tryd.prog 58 #[.int .i64 n, .int .i64 8] w fun e w' => e = .returned (.string (S (bytesOf n 8))) ∧ Below w.heap.size w w' := by
  have hcv := one_str
  go_enter Tryd.func58, Tryd.ntmps58
  go_wp2_with (go_at_call 62; refine (rq_size8 _).mono ?_; rintro e w' ⟨rfl, rfl⟩)
  go_loopw [0, 5, 6] (fun nn s i wr => ∃ k : Nat, k ≤ 8 ∧ i = .int .i64 k ∧ nn = .int .i64 ((n : Int) / 256 ^ k) ∧ s = .string (S (bytesOf n k)) ∧ Below w'.heap.size w' wr) (fun _ _ i _ => 8 - (intOf i).toNat)
  case atStart => exact ⟨0, Nat.zero_le _, rfl, by simp, rfl, Below.refl _ _⟩
  case round =>
    obtain ⟨k, hk, rfl, rfl, rfl, hb⟩ := hrel
    have hq0 : 0 ≤ (n : Int) / 256 ^ k := Int.ediv_nonneg (by omega) (Int.le_of_lt (Int.pow_pos (by decide)))
    have hq1 : (n : Int) / 256 ^ k ≤ n := Int.ediv_le_self _ (by omega)
    by_cases hlt : k < 8
    · have HB : Hid (S [by8 ((n : Int) / 256 ^ k % 256)] ++ S (bytesOf n k) = S (bytesOf n (k + 1))) := by
        show _ = _
        rw [S_cons, bytesOf_cons]
        congr 2
        unfold by8
        rw [Int.emod_emod_of_dvd _ (by decide)]
      have HP : Hid ((n : Int) / 256 ^ k / 256 = n / 256 ^ (k + 1)) := pow_ediv n k
      have hln : (S (bytesOf n k)).size ≤ 8 := by rw [S_size, bytesOf_length]; omega
      have hc1 := fun w => hcv ((n : Int) / 256 ^ k % 256) (by omega) (by omega) w
      clear hcv
      generalize (n : Int) / 256 ^ k = x at *
      have hs1 : (S [by8 (x % 256)]).size = 1 := by rw [S_size]; rfl
      generalize S [by8 (x % 256)] = c at *
      generalize S (bytesOf n k) = p at *
      have hsm : ¬ 9223372036854775807 < 1 + p.size := by omega
      go_wp2
      go_roundw
      case rel => exact ⟨k + 1, by omega, by go_num, by rw [HP.out], by rw [HB.out], hb.alloc hb.size _⟩
      case measure => simp [intOf]; omega
    · obtain rfl : k = 8 := by omega
      have hz0 : (n : Int) / 256 ^ 8 = 0 := by
        rw [show (256 : Int) ^ 8 = 18446744073709551616 from rfl]; omega
      have HR : Hid (Value.string (S (bytesOf n 8)) = .string (S (bytesOf n 8))) := rfl
      rw [hz0]
      clear hq0 hq1 hcv hz0
      go_wp2
      go_ret
      exact ⟨rfl, hb⟩
/-- How many bytes a slot's string has. -/
def strLenOf : Value → Nat
  | .string s => s.size
  | _ => 0
set_option maxRecDepth 100000 in
set_option maxHeartbeats 800000 in
theorem message_any (l : List UInt8) (w : World) (hl : l.length ≤ 1099511627776) :
    Calls Tryd.prog 50 #[.string (S l)] w fun e w' => e = .returned (.string (S (l ++ endL l.length))) ∧ Below w.heap.size w w' := by
  obtain ⟨n, hn⟩ : ∃ n, n = l.length := ⟨_, rfl⟩
  obtain ⟨z, hz⟩ : ∃ z : Nat, z = 63 - (n + 8) % 64 := ⟨_, rfl⟩
  have hs0 : (S l).size = n := by rw [S_size, hn]
  have hc0 : S l ++ ⟨#[128]⟩ = S (l ++ [128] ++ List.replicate 0 0) := by
    rw [show (⟨#[128]⟩ : ByteArray) = S [128] from rfl, S_append]; simp
  have HEnd : Hid (∀ (w : World), Calls Tryd.prog 58 #[.int .i64 (8 * (n : Int)), .int .i64 8] w fun e w' => e = .returned (.string (S (bytesOf (8 * n) 8))) ∧ Below w.heap.size w w') := fun w => by
    have := rq_put8 (8 * n) w (by omega)
    rwa [show ((8 * n : Nat) : Int) = 8 * (n : Int) by omega] at this
  have HF : Hid (S (l ++ [128] ++ List.replicate z 0) ++ S (bytesOf (8 * n) 8) = S (l ++ endL l.length)) := by
    show _ = _
    rw [S_append, ← hn]
    unfold endL
    rw [← hz]
    simp
  have hsz1 : ¬ 9223372036854775807 < n + 1 := by omega
  have HL : Hid (∀ k, (S (l ++ [128] ++ List.replicate k 0)).size = n + 1 + k) := fun k => by rw [S_size]; simp; omega
  have HApp : Hid (∀ k, S (l ++ [128] ++ List.replicate k 0) ++ ⟨#[0]⟩ = S (l ++ [128] ++ List.replicate (k + 1) 0)) := fun k => by
    rw [show (⟨#[0]⟩ : ByteArray) = S [0] from rfl, S_append, List.replicate_succ']; simp
  have HS8 : Hid ((S (bytesOf (8 * n) 8)).size = 8) := by show _ = _; rw [S_size, bytesOf_length]
  have HN : Hid (n = l.length) := hn
  have hnb : (n : Int) ≤ 1099511627776 := by omega
  have HZ : Hid (z = 63 - (n + 8) % 64) := hz
  have HNB : Hid (n ≤ 1099511627776) := by show _ ≤ _; omega
  clear hn hz
  generalize S l = s0 at *
  go_enter Tryd.func50, Tryd.ntmps50
  go_wp2
  go_loop [3] (fun m => ∃ k : Nat, k ≤ z ∧ m = .string (S (l ++ [128] ++ List.replicate k 0))) (fun m => n + 100 - strLenOf m)
  case atStart => exact ⟨0, Nat.zero_le _, by simp⟩
  case round =>
    obtain ⟨k, hk, rfl⟩ := hrel
    have hLk := HL.out k
    have hLk1 := HL.out (k + 1)
    have hzz := HZ.out
    have hnn := HNB.out
    have hApp := HApp.out k
    by_cases hlt : k < z
    · have t1 : ((((n + 1 + k : Nat) : Int) % 64) != 56) = true := by rw [bne_iff_ne]; omega
      have hsm : ¬ 9223372036854775807 < n + 1 + k + 1 := by omega
      have HM : Hid (n + 100 - strLenOf (.string (S (l ++ [128] ++ List.replicate (k + 1) 0))) < n + 100 - strLenOf (.string (S (l ++ [128] ++ List.replicate k 0)))) := by
        show n + 100 - (S _).size < n + 100 - (S _).size
        rw [hLk, hLk1]; omega
      have HQ : Hid (Value.string (S (l ++ [128] ++ List.replicate (k + 1) 0)) = .string (S (l ++ [128] ++ List.replicate (k + 1) 0))) := rfl
      clear hzz hnn hLk1
      generalize hA : S (l ++ [128] ++ List.replicate (k + 1) 0) = A at *
      have HA : Hid (S (l ++ [128] ++ List.replicate (k + 1) 0) = A) := hA
      clear hA HQ
      generalize S (l ++ [128] ++ List.replicate k 0) = B at *
      go_wp2
      go_round
      case rel => exact ⟨k + 1, by omega, by rw [HA.out]⟩
      case measure => exact HM.out
    · obtain rfl : k = z := by omega
      have t1 : ((((n + 1 + k : Nat) : Int) % 64) != 56) = false := by rw [bne_eq_false_iff_eq]; omega
      have hsm : ¬ 9223372036854775807 < n + 1 + k + 8 := by omega
      have hs8 := HS8.out
      clear hzz hnn hLk1 hApp
      generalize hB : S (l ++ [128] ++ List.replicate k 0) = B at *
      clear hB
      go_wp2_with fail
      refine (HEnd.out _).mono ?_
      rintro e w2 ⟨rfl, b2⟩
      generalize S (bytesOf (8 * n) 8) = E at *
      go_wp2
      go_ret
      exact ⟨ret_str HF.out, b2⟩
end Go.Proofs.YtficmbaffkkfhaaDoor
