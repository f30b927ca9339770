/- Contracts of the small functions of package sha on words of 32 bits. -/
import Derived.Test.YtficmbaffkkfhabDoorChecked
import Derived.Test.YtficmbaffkkfhabDoorSm
namespace Go.Proofs.YtficmbaffkkfhabDoor
open Go.RowKit

theorem ret_w {a b : Int} (h : a = b) : Ending.returned (.int .u32 a) = .returned (.int .u32 b) := by rw [h]
theorem rr_raw (x : W32) (n : Nat) : bits .or .u32 (IntKind.u32.wrap (iw x * 2 ^ (32 - n))) (iw x / 2 ^ n) = iw (rr x n) := by
  rw [iw_shl, iw_shr, iw_or, BitVec.or_comm]; rfl
theorem rr_raw' (x : W32) (n : Nat) : bits .or .u32 (iw x / 2 ^ n) (IntKind.u32.wrap (iw x * 2 ^ (32 - n))) = iw (rr x n) := by
  rw [iw_shl, iw_shr, iw_or]; rfl
theorem rr_2 (x : W32) : bits .or .u32 (IntKind.u32.wrap (iw x * 1073741824)) (iw x / 4) = iw (rr x 2) := rr_raw x 2
theorem rr_2' (x : W32) : bits .or .u32 (iw x / 4) (IntKind.u32.wrap (iw x * 1073741824)) = iw (rr x 2) := rr_raw' x 2
theorem rotl_2 (x : W32) (w : World) :
    Calls Tryd.prog 42 #[.int .u32 (iw x), .int .i64 (-2)] w fun e w' => e = .returned (.int .u32 (iw (rr x 2))) ∧ w' = w := by
  have h0 := iw_nonneg x
  have h1 := iw_lt x
  have e : Hid (bits .or .u32 (IntKind.u32.wrap (iw x * 1073741824)) (iw x / 4) = iw (rr x 2)) := rr_2 x
  generalize iw (rr x 2) = R at *
  generalize iw x = X at *
  have hb : bits .and .u64 (IntKind.u64.wrap (-2)) 31 = 30 := by kernel_rfl
  go_enter Tryd.func42, Tryd.ntmps42
  go_wp2
  go_ret
  exact ⟨ret_w e.out, rfl⟩
theorem right_2 (x : W32) (w : World) :
    Calls Tryd.prog 41 #[.int .u32 (iw x), .int .i64 2] w fun e w' => e = .returned (.int .u32 (iw (rr x 2))) ∧ w' = w := by
  have hc : Hid (∀ w : World, Calls Tryd.prog 42 #[.int .u32 (iw x), .int .i64 (-2)] w fun e w' => e = .returned (.int .u32 (iw (rr x 2))) ∧ w' = w) := rotl_2 x
  generalize iw (rr x 2) = R at *
  generalize iw x = X at *
  go_enter Tryd.func41, Tryd.ntmps41
  go_wp2_with (go_at_call 42; refine (hc.out _).mono ?_; rintro e w' ⟨rfl, rfl⟩)
  go_ret
  exact ⟨rfl, rfl⟩
theorem rr_6 (x : W32) : bits .or .u32 (IntKind.u32.wrap (iw x * 67108864)) (iw x / 64) = iw (rr x 6) := rr_raw x 6
theorem rr_6' (x : W32) : bits .or .u32 (iw x / 64) (IntKind.u32.wrap (iw x * 67108864)) = iw (rr x 6) := rr_raw' x 6
theorem rotl_6 (x : W32) (w : World) :
    Calls Tryd.prog 42 #[.int .u32 (iw x), .int .i64 (-6)] w fun e w' => e = .returned (.int .u32 (iw (rr x 6))) ∧ w' = w := by
  have h0 := iw_nonneg x
  have h1 := iw_lt x
  have e : Hid (bits .or .u32 (IntKind.u32.wrap (iw x * 67108864)) (iw x / 64) = iw (rr x 6)) := rr_6 x
  generalize iw (rr x 6) = R at *
  generalize iw x = X at *
  have hb : bits .and .u64 (IntKind.u64.wrap (-6)) 31 = 26 := by kernel_rfl
  go_enter Tryd.func42, Tryd.ntmps42
  go_wp2
  go_ret
  exact ⟨ret_w e.out, rfl⟩
theorem right_6 (x : W32) (w : World) :
    Calls Tryd.prog 41 #[.int .u32 (iw x), .int .i64 6] w fun e w' => e = .returned (.int .u32 (iw (rr x 6))) ∧ w' = w := by
  have hc : Hid (∀ w : World, Calls Tryd.prog 42 #[.int .u32 (iw x), .int .i64 (-6)] w fun e w' => e = .returned (.int .u32 (iw (rr x 6))) ∧ w' = w) := rotl_6 x
  generalize iw (rr x 6) = R at *
  generalize iw x = X at *
  go_enter Tryd.func41, Tryd.ntmps41
  go_wp2_with (go_at_call 42; refine (hc.out _).mono ?_; rintro e w' ⟨rfl, rfl⟩)
  go_ret
  exact ⟨rfl, rfl⟩
theorem rr_7 (x : W32) : bits .or .u32 (IntKind.u32.wrap (iw x * 33554432)) (iw x / 128) = iw (rr x 7) := rr_raw x 7
theorem rr_7' (x : W32) : bits .or .u32 (iw x / 128) (IntKind.u32.wrap (iw x * 33554432)) = iw (rr x 7) := rr_raw' x 7
theorem rotl_7 (x : W32) (w : World) :
    Calls Tryd.prog 42 #[.int .u32 (iw x), .int .i64 (-7)] w fun e w' => e = .returned (.int .u32 (iw (rr x 7))) ∧ w' = w := by
  have h0 := iw_nonneg x
  have h1 := iw_lt x
  have e : Hid (bits .or .u32 (IntKind.u32.wrap (iw x * 33554432)) (iw x / 128) = iw (rr x 7)) := rr_7 x
  generalize iw (rr x 7) = R at *
  generalize iw x = X at *
  have hb : bits .and .u64 (IntKind.u64.wrap (-7)) 31 = 25 := by kernel_rfl
  go_enter Tryd.func42, Tryd.ntmps42
  go_wp2
  go_ret
  exact ⟨ret_w e.out, rfl⟩
theorem right_7 (x : W32) (w : World) :
    Calls Tryd.prog 41 #[.int .u32 (iw x), .int .i64 7] w fun e w' => e = .returned (.int .u32 (iw (rr x 7))) ∧ w' = w := by
  have hc : Hid (∀ w : World, Calls Tryd.prog 42 #[.int .u32 (iw x), .int .i64 (-7)] w fun e w' => e = .returned (.int .u32 (iw (rr x 7))) ∧ w' = w) := rotl_7 x
  generalize iw (rr x 7) = R at *
  generalize iw x = X at *
  go_enter Tryd.func41, Tryd.ntmps41
  go_wp2_with (go_at_call 42; refine (hc.out _).mono ?_; rintro e w' ⟨rfl, rfl⟩)
  go_ret
  exact ⟨rfl, rfl⟩
theorem rr_11 (x : W32) : bits .or .u32 (IntKind.u32.wrap (iw x * 2097152)) (iw x / 2048) = iw (rr x 11) := rr_raw x 11
theorem rr_11' (x : W32) : bits .or .u32 (iw x / 2048) (IntKind.u32.wrap (iw x * 2097152)) = iw (rr x 11) := rr_raw' x 11
theorem rotl_11 (x : W32) (w : World) :
    Calls Tryd.prog 42 #[.int .u32 (iw x), .int .i64 (-11)] w fun e w' => e = .returned (.int .u32 (iw (rr x 11))) ∧ w' = w := by
  have h0 := iw_nonneg x
  have h1 := iw_lt x
  have e : Hid (bits .or .u32 (IntKind.u32.wrap (iw x * 2097152)) (iw x / 2048) = iw (rr x 11)) := rr_11 x
  generalize iw (rr x 11) = R at *
  generalize iw x = X at *
  have hb : bits .and .u64 (IntKind.u64.wrap (-11)) 31 = 21 := by kernel_rfl
  go_enter Tryd.func42, Tryd.ntmps42
  go_wp2
  go_ret
  exact ⟨ret_w e.out, rfl⟩
theorem right_11 (x : W32) (w : World) :
    Calls Tryd.prog 41 #[.int .u32 (iw x), .int .i64 11] w fun e w' => e = .returned (.int .u32 (iw (rr x 11))) ∧ w' = w := by
  have hc : Hid (∀ w : World, Calls Tryd.prog 42 #[.int .u32 (iw x), .int .i64 (-11)] w fun e w' => e = .returned (.int .u32 (iw (rr x 11))) ∧ w' = w) := rotl_11 x
  generalize iw (rr x 11) = R at *
  generalize iw x = X at *
  go_enter Tryd.func41, Tryd.ntmps41
  go_wp2_with (go_at_call 42; refine (hc.out _).mono ?_; rintro e w' ⟨rfl, rfl⟩)
  go_ret
  exact ⟨rfl, rfl⟩
theorem rr_13 (x : W32) : bits .or .u32 (IntKind.u32.wrap (iw x * 524288)) (iw x / 8192) = iw (rr x 13) := rr_raw x 13
theorem rr_13' (x : W32) : bits .or .u32 (iw x / 8192) (IntKind.u32.wrap (iw x * 524288)) = iw (rr x 13) := rr_raw' x 13
theorem rotl_13 (x : W32) (w : World) :
    Calls Tryd.prog 42 #[.int .u32 (iw x), .int .i64 (-13)] w fun e w' => e = .returned (.int .u32 (iw (rr x 13))) ∧ w' = w := by
  have h0 := iw_nonneg x
  have h1 := iw_lt x
  have e : Hid (bits .or .u32 (IntKind.u32.wrap (iw x * 524288)) (iw x / 8192) = iw (rr x 13)) := rr_13 x
  generalize iw (rr x 13) = R at *
  generalize iw x = X at *
  have hb : bits .and .u64 (IntKind.u64.wrap (-13)) 31 = 19 := by kernel_rfl
  go_enter Tryd.func42, Tryd.ntmps42
  go_wp2
  go_ret
  exact ⟨ret_w e.out, rfl⟩
theorem right_13 (x : W32) (w : World) :
    Calls Tryd.prog 41 #[.int .u32 (iw x), .int .i64 13] w fun e w' => e = .returned (.int .u32 (iw (rr x 13))) ∧ w' = w := by
  have hc : Hid (∀ w : World, Calls Tryd.prog 42 #[.int .u32 (iw x), .int .i64 (-13)] w fun e w' => e = .returned (.int .u32 (iw (rr x 13))) ∧ w' = w) := rotl_13 x
  generalize iw (rr x 13) = R at *
  generalize iw x = X at *
  go_enter Tryd.func41, Tryd.ntmps41
  go_wp2_with (go_at_call 42; refine (hc.out _).mono ?_; rintro e w' ⟨rfl, rfl⟩)
  go_ret
  exact ⟨rfl, rfl⟩
theorem rr_17 (x : W32) : bits .or .u32 (IntKind.u32.wrap (iw x * 32768)) (iw x / 131072) = iw (rr x 17) := rr_raw x 17
theorem rr_17' (x : W32) : bits .or .u32 (iw x / 131072) (IntKind.u32.wrap (iw x * 32768)) = iw (rr x 17) := rr_raw' x 17
theorem rotl_17 (x : W32) (w : World) :
    Calls Tryd.prog 42 #[.int .u32 (iw x), .int .i64 (-17)] w fun e w' => e = .returned (.int .u32 (iw (rr x 17))) ∧ w' = w := by
  have h0 := iw_nonneg x
  have h1 := iw_lt x
  have e : Hid (bits .or .u32 (IntKind.u32.wrap (iw x * 32768)) (iw x / 131072) = iw (rr x 17)) := rr_17 x
  generalize iw (rr x 17) = R at *
  generalize iw x = X at *
  have hb : bits .and .u64 (IntKind.u64.wrap (-17)) 31 = 15 := by kernel_rfl
  go_enter Tryd.func42, Tryd.ntmps42
  go_wp2
  go_ret
  exact ⟨ret_w e.out, rfl⟩
theorem right_17 (x : W32) (w : World) :
    Calls Tryd.prog 41 #[.int .u32 (iw x), .int .i64 17] w fun e w' => e = .returned (.int .u32 (iw (rr x 17))) ∧ w' = w := by
  have hc : Hid (∀ w : World, Calls Tryd.prog 42 #[.int .u32 (iw x), .int .i64 (-17)] w fun e w' => e = .returned (.int .u32 (iw (rr x 17))) ∧ w' = w) := rotl_17 x
  generalize iw (rr x 17) = R at *
  generalize iw x = X at *
  go_enter Tryd.func41, Tryd.ntmps41
  go_wp2_with (go_at_call 42; refine (hc.out _).mono ?_; rintro e w' ⟨rfl, rfl⟩)
  go_ret
  exact ⟨rfl, rfl⟩
theorem rr_18 (x : W32) : bits .or .u32 (IntKind.u32.wrap (iw x * 16384)) (iw x / 262144) = iw (rr x 18) := rr_raw x 18
theorem rr_18' (x : W32) : bits .or .u32 (iw x / 262144) (IntKind.u32.wrap (iw x * 16384)) = iw (rr x 18) := rr_raw' x 18
theorem rotl_18 (x : W32) (w : World) :
    Calls Tryd.prog 42 #[.int .u32 (iw x), .int .i64 (-18)] w fun e w' => e = .returned (.int .u32 (iw (rr x 18))) ∧ w' = w := by
  have h0 := iw_nonneg x
  have h1 := iw_lt x
  have e : Hid (bits .or .u32 (IntKind.u32.wrap (iw x * 16384)) (iw x / 262144) = iw (rr x 18)) := rr_18 x
  generalize iw (rr x 18) = R at *
  generalize iw x = X at *
  have hb : bits .and .u64 (IntKind.u64.wrap (-18)) 31 = 14 := by kernel_rfl
  go_enter Tryd.func42, Tryd.ntmps42
  go_wp2
  go_ret
  exact ⟨ret_w e.out, rfl⟩
theorem right_18 (x : W32) (w : World) :
    Calls Tryd.prog 41 #[.int .u32 (iw x), .int .i64 18] w fun e w' => e = .returned (.int .u32 (iw (rr x 18))) ∧ w' = w := by
  have hc : Hid (∀ w : World, Calls Tryd.prog 42 #[.int .u32 (iw x), .int .i64 (-18)] w fun e w' => e = .returned (.int .u32 (iw (rr x 18))) ∧ w' = w) := rotl_18 x
  generalize iw (rr x 18) = R at *
  generalize iw x = X at *
  go_enter Tryd.func41, Tryd.ntmps41
  go_wp2_with (go_at_call 42; refine (hc.out _).mono ?_; rintro e w' ⟨rfl, rfl⟩)
  go_ret
  exact ⟨rfl, rfl⟩
theorem rr_19 (x : W32) : bits .or .u32 (IntKind.u32.wrap (iw x * 8192)) (iw x / 524288) = iw (rr x 19) := rr_raw x 19
theorem rr_19' (x : W32) : bits .or .u32 (iw x / 524288) (IntKind.u32.wrap (iw x * 8192)) = iw (rr x 19) := rr_raw' x 19
theorem rotl_19 (x : W32) (w : World) :
    Calls Tryd.prog 42 #[.int .u32 (iw x), .int .i64 (-19)] w fun e w' => e = .returned (.int .u32 (iw (rr x 19))) ∧ w' = w := by
  have h0 := iw_nonneg x
  have h1 := iw_lt x
  have e : Hid (bits .or .u32 (IntKind.u32.wrap (iw x * 8192)) (iw x / 524288) = iw (rr x 19)) := rr_19 x
  generalize iw (rr x 19) = R at *
  generalize iw x = X at *
  have hb : bits .and .u64 (IntKind.u64.wrap (-19)) 31 = 13 := by kernel_rfl
  go_enter Tryd.func42, Tryd.ntmps42
  go_wp2
  go_ret
  exact ⟨ret_w e.out, rfl⟩
theorem right_19 (x : W32) (w : World) :
    Calls Tryd.prog 41 #[.int .u32 (iw x), .int .i64 19] w fun e w' => e = .returned (.int .u32 (iw (rr x 19))) ∧ w' = w := by
  have hc : Hid (∀ w : World, Calls Tryd.prog 42 #[.int .u32 (iw x), .int .i64 (-19)] w fun e w' => e = .returned (.int .u32 (iw (rr x 19))) ∧ w' = w) := rotl_19 x
  generalize iw (rr x 19) = R at *
  generalize iw x = X at *
  go_enter Tryd.func41, Tryd.ntmps41
  go_wp2_with (go_at_call 42; refine (hc.out _).mono ?_; rintro e w' ⟨rfl, rfl⟩)
  go_ret
  exact ⟨rfl, rfl⟩
theorem rr_22 (x : W32) : bits .or .u32 (IntKind.u32.wrap (iw x * 1024)) (iw x / 4194304) = iw (rr x 22) := rr_raw x 22
theorem rr_22' (x : W32) : bits .or .u32 (iw x / 4194304) (IntKind.u32.wrap (iw x * 1024)) = iw (rr x 22) := rr_raw' x 22
theorem rotl_22 (x : W32) (w : World) :
    Calls Tryd.prog 42 #[.int .u32 (iw x), .int .i64 (-22)] w fun e w' => e = .returned (.int .u32 (iw (rr x 22))) ∧ w' = w := by
  have h0 := iw_nonneg x
  have h1 := iw_lt x
  have e : Hid (bits .or .u32 (IntKind.u32.wrap (iw x * 1024)) (iw x / 4194304) = iw (rr x 22)) := rr_22 x
  generalize iw (rr x 22) = R at *
  generalize iw x = X at *
  have hb : bits .and .u64 (IntKind.u64.wrap (-22)) 31 = 10 := by kernel_rfl
  go_enter Tryd.func42, Tryd.ntmps42
  go_wp2
  go_ret
  exact ⟨ret_w e.out, rfl⟩
theorem right_22 (x : W32) (w : World) :
    Calls Tryd.prog 41 #[.int .u32 (iw x), .int .i64 22] w fun e w' => e = .returned (.int .u32 (iw (rr x 22))) ∧ w' = w := by
  have hc : Hid (∀ w : World, Calls Tryd.prog 42 #[.int .u32 (iw x), .int .i64 (-22)] w fun e w' => e = .returned (.int .u32 (iw (rr x 22))) ∧ w' = w) := rotl_22 x
  generalize iw (rr x 22) = R at *
  generalize iw x = X at *
  go_enter Tryd.func41, Tryd.ntmps41
  go_wp2_with (go_at_call 42; refine (hc.out _).mono ?_; rintro e w' ⟨rfl, rfl⟩)
  go_ret
  exact ⟨rfl, rfl⟩
theorem rr_25 (x : W32) : bits .or .u32 (IntKind.u32.wrap (iw x * 128)) (iw x / 33554432) = iw (rr x 25) := rr_raw x 25
theorem rr_25' (x : W32) : bits .or .u32 (iw x / 33554432) (IntKind.u32.wrap (iw x * 128)) = iw (rr x 25) := rr_raw' x 25
theorem rotl_25 (x : W32) (w : World) :
    Calls Tryd.prog 42 #[.int .u32 (iw x), .int .i64 (-25)] w fun e w' => e = .returned (.int .u32 (iw (rr x 25))) ∧ w' = w := by
  have h0 := iw_nonneg x
  have h1 := iw_lt x
  have e : Hid (bits .or .u32 (IntKind.u32.wrap (iw x * 128)) (iw x / 33554432) = iw (rr x 25)) := rr_25 x
  generalize iw (rr x 25) = R at *
  generalize iw x = X at *
  have hb : bits .and .u64 (IntKind.u64.wrap (-25)) 31 = 7 := by kernel_rfl
  go_enter Tryd.func42, Tryd.ntmps42
  go_wp2
  go_ret
  exact ⟨ret_w e.out, rfl⟩
theorem right_25 (x : W32) (w : World) :
    Calls Tryd.prog 41 #[.int .u32 (iw x), .int .i64 25] w fun e w' => e = .returned (.int .u32 (iw (rr x 25))) ∧ w' = w := by
  have hc : Hid (∀ w : World, Calls Tryd.prog 42 #[.int .u32 (iw x), .int .i64 (-25)] w fun e w' => e = .returned (.int .u32 (iw (rr x 25))) ∧ w' = w) := rotl_25 x
  generalize iw (rr x 25) = R at *
  generalize iw x = X at *
  go_enter Tryd.func41, Tryd.ntmps41
  go_wp2_with (go_at_call 42; refine (hc.out _).mono ?_; rintro e w' ⟨rfl, rfl⟩)
  go_ret
  exact ⟨rfl, rfl⟩
theorem sum0_any (x : W32) (w : World) :
    Calls Tryd.prog 37 #[.int .u32 (iw x)] w fun e w' => e = .returned (.int .u32 (iw (S0 x))) ∧ w' = w := by
  have h0 := iw_nonneg x
  have h1 := iw_lt x
  have e : Hid (bits .xor .u32 (bits .xor .u32 (iw (rr x 2)) (iw (rr x 13))) (iw (rr x 22)) = iw (S0 x)) := by show _ = _; rw [iw_xor, iw_xor]; rfl
  have c0 : Hid (∀ w : World, Calls Tryd.prog 41 #[.int .u32 (iw x), .int .i64 2] w fun e w' => e = .returned (.int .u32 (iw (rr x 2))) ∧ w' = w) := right_2 x
  have c1 : Hid (∀ w : World, Calls Tryd.prog 41 #[.int .u32 (iw x), .int .i64 13] w fun e w' => e = .returned (.int .u32 (iw (rr x 13))) ∧ w' = w) := right_13 x
  have c2 : Hid (∀ w : World, Calls Tryd.prog 41 #[.int .u32 (iw x), .int .i64 22] w fun e w' => e = .returned (.int .u32 (iw (rr x 22))) ∧ w' = w) := right_22 x
  generalize iw (S0 x) = R at *
  generalize iw (rr x 2) = R0 at *
  generalize iw (rr x 13) = R1 at *
  generalize iw (rr x 22) = R2 at *
  generalize iw x = X at *
  go_enter Tryd.func37, Tryd.ntmps37
  go_wp2_with fail
  refine (c0.out _).mono ?_
  rintro e w' ⟨rfl, rfl⟩
  go_wp2_with fail
  refine (c1.out _).mono ?_
  rintro e w' ⟨rfl, rfl⟩
  go_wp2_with fail
  refine (c2.out _).mono ?_
  rintro e w' ⟨rfl, rfl⟩
  go_wp2
  go_ret
  exact ⟨ret_w e.out, rfl⟩
theorem sum1_any (x : W32) (w : World) :
    Calls Tryd.prog 35 #[.int .u32 (iw x)] w fun e w' => e = .returned (.int .u32 (iw (S1 x))) ∧ w' = w := by
  have h0 := iw_nonneg x
  have h1 := iw_lt x
  have e : Hid (bits .xor .u32 (bits .xor .u32 (iw (rr x 6)) (iw (rr x 11))) (iw (rr x 25)) = iw (S1 x)) := by show _ = _; rw [iw_xor, iw_xor]; rfl
  have c0 : Hid (∀ w : World, Calls Tryd.prog 41 #[.int .u32 (iw x), .int .i64 6] w fun e w' => e = .returned (.int .u32 (iw (rr x 6))) ∧ w' = w) := right_6 x
  have c1 : Hid (∀ w : World, Calls Tryd.prog 41 #[.int .u32 (iw x), .int .i64 11] w fun e w' => e = .returned (.int .u32 (iw (rr x 11))) ∧ w' = w) := right_11 x
  have c2 : Hid (∀ w : World, Calls Tryd.prog 41 #[.int .u32 (iw x), .int .i64 25] w fun e w' => e = .returned (.int .u32 (iw (rr x 25))) ∧ w' = w) := right_25 x
  generalize iw (S1 x) = R at *
  generalize iw (rr x 6) = R0 at *
  generalize iw (rr x 11) = R1 at *
  generalize iw (rr x 25) = R2 at *
  generalize iw x = X at *
  go_enter Tryd.func35, Tryd.ntmps35
  go_wp2_with fail
  refine (c0.out _).mono ?_
  rintro e w' ⟨rfl, rfl⟩
  go_wp2_with fail
  refine (c1.out _).mono ?_
  rintro e w' ⟨rfl, rfl⟩
  go_wp2_with fail
  refine (c2.out _).mono ?_
  rintro e w' ⟨rfl, rfl⟩
  go_wp2
  go_ret
  exact ⟨ret_w e.out, rfl⟩
theorem mix0_any (x : W32) (w : World) :
    Calls Tryd.prog 40 #[.int .u32 (iw x)] w fun e w' => e = .returned (.int .u32 (iw (s0 x))) ∧ w' = w := by
  have h0 := iw_nonneg x
  have h1 := iw_lt x
  have e : Hid (bits .xor .u32 (bits .xor .u32 (iw (rr x 7)) (iw (rr x 18))) (iw x / 8) = iw (s0 x)) := by show _ = _; rw [show iw x / (8 : Int) = iw (x >>> 3) from iw_shr x 3, iw_xor, iw_xor]; rfl
  have c0 : Hid (∀ w : World, Calls Tryd.prog 41 #[.int .u32 (iw x), .int .i64 7] w fun e w' => e = .returned (.int .u32 (iw (rr x 7))) ∧ w' = w) := right_7 x
  have c1 : Hid (∀ w : World, Calls Tryd.prog 41 #[.int .u32 (iw x), .int .i64 18] w fun e w' => e = .returned (.int .u32 (iw (rr x 18))) ∧ w' = w) := right_18 x
  generalize iw (s0 x) = R at *
  generalize iw (rr x 7) = R0 at *
  generalize iw (rr x 18) = R1 at *
  generalize iw x = X at *
  go_enter Tryd.func40, Tryd.ntmps40
  go_wp2_with fail
  refine (c0.out _).mono ?_
  rintro e w' ⟨rfl, rfl⟩
  go_wp2_with fail
  refine (c1.out _).mono ?_
  rintro e w' ⟨rfl, rfl⟩
  go_wp2
  go_ret
  exact ⟨ret_w e.out, rfl⟩
theorem mix1_any (x : W32) (w : World) :
    Calls Tryd.prog 39 #[.int .u32 (iw x)] w fun e w' => e = .returned (.int .u32 (iw (s1 x))) ∧ w' = w := by
  have h0 := iw_nonneg x
  have h1 := iw_lt x
  have e : Hid (bits .xor .u32 (bits .xor .u32 (iw (rr x 17)) (iw (rr x 19))) (iw x / 1024) = iw (s1 x)) := by show _ = _; rw [show iw x / (1024 : Int) = iw (x >>> 10) from iw_shr x 10, iw_xor, iw_xor]; rfl
  have c0 : Hid (∀ w : World, Calls Tryd.prog 41 #[.int .u32 (iw x), .int .i64 17] w fun e w' => e = .returned (.int .u32 (iw (rr x 17))) ∧ w' = w) := right_17 x
  have c1 : Hid (∀ w : World, Calls Tryd.prog 41 #[.int .u32 (iw x), .int .i64 19] w fun e w' => e = .returned (.int .u32 (iw (rr x 19))) ∧ w' = w) := right_19 x
  generalize iw (s1 x) = R at *
  generalize iw (rr x 17) = R0 at *
  generalize iw (rr x 19) = R1 at *
  generalize iw x = X at *
  go_enter Tryd.func39, Tryd.ntmps39
  go_wp2_with fail
  refine (c0.out _).mono ?_
  rintro e w' ⟨rfl, rfl⟩
  go_wp2_with fail
  refine (c1.out _).mono ?_
  rintro e w' ⟨rfl, rfl⟩
  go_wp2
  go_ret
  exact ⟨ret_w e.out, rfl⟩
theorem ch_raw (x y z : W32) : bits .xor .u32 (bits .and .u32 (iw x) (iw y)) (bits .and .u32 (bits .xor .u32 IntKind.u32.max (iw x)) (iw z)) = iw (chw x y z) := by
  rw [iw_not, iw_and, iw_and, iw_xor]; rfl
theorem ma_raw (x y z : W32) : bits .xor .u32 (bits .xor .u32 (bits .and .u32 (iw x) (iw y)) (bits .and .u32 (iw x) (iw z))) (bits .and .u32 (iw y) (iw z)) = iw (maw x y z) := by
  rw [iw_and, iw_and, iw_and, iw_xor, iw_xor]; rfl
theorem choice_any (x y z : W32) (w : World) :
    Calls Tryd.prog 36 #[.int .u32 (iw x), .int .u32 (iw y), .int .u32 (iw z)] w fun e w' => e = .returned (.int .u32 (iw (chw x y z))) ∧ w' = w := by
  have e : Hid (bits .xor .u32 (bits .and .u32 (iw x) (iw y)) (bits .and .u32 (bits .xor .u32 IntKind.u32.max (iw x)) (iw z)) = iw (chw x y z)) := ch_raw x y z
  have hs : ¬ IntKind.u32.signed = true := by decide
  generalize iw (chw x y z) = R at *
  generalize iw x = X at *
  generalize iw y = Y at *
  generalize iw z = Z at *
  go_enter Tryd.func36, Tryd.ntmps36
  go_wp2
  go_ret
  exact ⟨ret_w e.out, rfl⟩
theorem majority_any (x y z : W32) (w : World) :
    Calls Tryd.prog 38 #[.int .u32 (iw x), .int .u32 (iw y), .int .u32 (iw z)] w fun e w' => e = .returned (.int .u32 (iw (maw x y z))) ∧ w' = w := by
  have e : Hid (bits .xor .u32 (bits .xor .u32 (bits .and .u32 (iw x) (iw y)) (bits .and .u32 (iw x) (iw z))) (bits .and .u32 (iw y) (iw z)) = iw (maw x y z)) := ma_raw x y z
  generalize iw (maw x y z) = R at *
  generalize iw x = X at *
  generalize iw y = Y at *
  generalize iw z = Z at *
  go_enter Tryd.func38, Tryd.ntmps38
  go_wp2
  go_ret
  exact ⟨ret_w e.out, rfl⟩
end Go.Proofs.YtficmbaffkkfhabDoor
