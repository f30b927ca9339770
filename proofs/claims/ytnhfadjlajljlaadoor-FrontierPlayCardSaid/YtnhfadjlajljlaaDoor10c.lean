/- bits.TrailingZeros of what a number lacks; bits.OnesCount (their own texts walked; layer 10). -/
import Derived.Test.YtnhfadjlajljlaaDoorChecked
import Derived.WalkKit
import Derived.Laws.Bits64b
import Derived.Laws.BitsAllLaws
import Derived.Test.YtnhfadjlajljlaaDoorW1
import Derived.Test.YtnhfadjlajljlaaDoorW2
namespace Go.Proofs.YtnhfadjlajljlaaDoor
open Go.RowKit

/-- The table of sixty-four lies in its block. -/
def dbV : Array Value := (Lib.deBruijn64tab.map fun (n : Nat) => Value.int .u8 (n : Int)).toArray
def TabD (w : World) : Prop := ∃ t fr, w.heap[1]? = some (.cells dbV t fr)
theorem TabD.lt {w : World} (h : TabD w) : 1 < w.heap.size := by
  obtain ⟨t, fr, h⟩ := h
  exact (Array.getElem?_eq_some_iff.1 h).1
theorem TabD.below {w w' : World} {n : Nat} (h : TabD w) (hb : Below n w w') (hn : 1 < n) : TabD w' := by
  obtain ⟨t, fr, h⟩ := h
  exact ⟨t, fr, (hb.block _ hn).trans h⟩
theorem TabD.but {w w' : World} {b : Nat} (h : TabD w) (hb : But b w w') (hn : 1 < b) : TabD w' := by
  have h1 := h.lt
  obtain ⟨t, fr, h⟩ := h
  exact ⟨t, fr, (hb.block _ h1 (by omega)).trans h⟩
theorem TabD.cell {w : World} (h : TabD w) (j : Nat) (hj : j < 64) : w.cell? ⟨1, j, none⟩ = some (.int .u8 ((Lib.deBruijn64tab.getD j 0 : Nat) : Int)) := by
  obtain ⟨t, fr, h⟩ := h
  have hl : Lib.deBruijn64tab.length = 64 := rfl
  rw [cell_of_row _ _ _ _ _ _ h, dbV, List.getElem?_toArray, List.getElem?_map, List.getElem?_eq_getElem (by omega)]
  simp [List.getD, hl, hj]
theorem wrap_u64n (n : Int) : IntKind.u64.wrap n = n % 18446744073709551616 := by simp [IntKind.wrap, IntKind.signed, IntKind.bits]
theorem tz64_key (x a : Nat) (hx : x < 18446744073709551616) (hx0 : x ≠ 0) (hlow : x &&& (18446744073709551616 - x) = a) :
    IntKind.u64.wrap (bits BinOp.and IntKind.u64 (x : Int) (IntKind.u64.wrap (-(x : Int))) * 285870213051353865) / 288230376151711744 = ((a * 285870213051353865 % 18446744073709551616 / 288230376151711744 : Nat) : Int) := by
  have e1 : IntKind.u64.wrap (-(x : Int)) = ((18446744073709551616 - x : Nat) : Int) := by rw [wrap_u64n]; omega
  rw [e1, bits_and_u64_nat x _ hx (by omega), hlow, wrap_u64n]
  omega
theorem tz64_core (x k idx : Nat) (w : World) (hx0 : ((x : Int) == 0) = false)
    (key : IntKind.u64.wrap (bits BinOp.and IntKind.u64 (x : Int) (IntKind.u64.wrap (-(x : Int))) * 285870213051353865) / 288230376151711744 = (idx : Int))
    (hi : idx < 64) (hk : k < 64) (hcell : w.cell? ⟨1, idx, none⟩ = some (.int .u8 k)) :
    Calls Tryd.prog 41 #[.int .u64 x] w fun e w' => e = .returned (.int .i64 k) ∧ w' = w := by
  go_enter Tryd.func41, Tryd.ntmps41
  go_wp2_with (simp only [key])
  go_ret
  exact ⟨rfl, rfl⟩
theorem tz64_any (x : Nat) (hx : x < 18446744073709551616) (hx0 : x ≠ 0) (w : World) (hT : TabD w) :
    Calls Tryd.prog 41 #[.int .u64 x] w fun e w' => e = .returned (.int .i64 (Lib.ctz 64 x)) ∧ w' = w := by
  obtain ⟨hlow, hk⟩ := Lib.lowest_bit 64 x hx0 hx
  obtain ⟨hi, htab⟩ := Lib.deBruijn64_at _ hk
  have hcell := hT.cell _ hi
  rw [htab] at hcell
  exact tz64_core x _ _ w (by simp; omega) (tz64_key x _ hx hx0 hlow) hi hk hcell
/-- How many 1 bits stand at a number's end: 0 bits at the end of what it lacks. -/
theorem tail_any (n : Nat) (hn : n < 9223372036854775807) (w : World) (hT : TabD w) :
    Calls Tryd.prog 29 #[.int .u64 (18446744073709551615 - n : Int)] w fun e w' => e = .returned (.int .i64 (tlN n)) ∧ w' = w := by
  have hC := tz64_any (18446744073709551615 - n) (by omega) (by omega) w hT
  have e1 : Lib.ctz 64 (18446744073709551615 - n) = tlN n := by
    unfold Lib.ctz
    rw [if_neg (by omega)]
    exact ctz_not 64 n (by omega)
  rw [e1] at hC
  rw [show ((18446744073709551615 - n : Nat) : Int) = 18446744073709551615 - (n : Int) by omega] at hC
  have hC : Hid (Calls Tryd.prog 41 #[.int .u64 (18446744073709551615 - n : Int)] w fun e w' => e = .returned (.int .i64 (tlN n)) ∧ w' = w) := hC
  generalize hx : (18446744073709551615 - (n : Int)) = x at *
  have h1 : 0 ≤ x := by omega
  have h2 : x < 18446744073709551616 := by omega
  clear hx e1
  go_enter Tryd.func29, Tryd.ntmps29
  go_wp2_with fail
  refine hC.out.mono ?_
  rintro e w' ⟨rfl, rfl⟩
  go_wp2
  go_ret
  exact ⟨rfl, rfl⟩
theorem and_127 (a : Nat) (ha : a < 9223372036854775808) : bits .and .i64 (a : Int) 127 = ((a % 128 : Nat) : Int) := by
  have h1 : (BitVec.ofInt 64 (a : Int)).toNat = a := by
    rw [BitVec.ofInt_natCast, BitVec.toNat_ofNat]; exact Nat.mod_eq_of_lt (by omega)
  have h2 : (BitVec.ofInt 64 (127 : Int)).toNat = 127 := rfl
  have h3 : a &&& 127 = a % 128 := Nat.and_two_pow_sub_one_eq_mod a 7
  show IntKind.i64.wrap ((BitVec.ofInt 64 (a : Int) &&& BitVec.ofInt 64 127).toNat : Int) = _
  rw [BitVec.toNat_and, h1, h2, h3, IntKind.wrap_i64]
  omega
theorem wrap_small (y : Nat) (h : y < 9223372036854775808) : wrap64 (y : Int) = (y : Int) ∧ IntKind.i64.wrap (y : Int) = (y : Int) :=
  ⟨by unfold wrap64; omega, by rw [IntKind.wrap_i64]; omega⟩
theorem sum_wrap (y z c : Nat) (h : y + y / c = z) (hz : z < 18446744073709551616) : IntKind.u64.wrap ((y : Int) + (y : Int) / (c : Int)) = (z : Int) := by
  rw [wrap_u64n, show (y : Int) + (y : Int) / (c : Int) = ((y + y / c : Nat) : Int) by push_cast; rfl, h]
  omega
set_option maxRecDepth 100000 in
theorem oc64_core (x y1 y2 y3 y4 y5 y6 r : Nat) (w : World)
    (k1 : IntKind.u64.wrap (bits BinOp.and IntKind.u64 ((x : Int) / 2) 6148914691236517205 + bits BinOp.and IntKind.u64 (x : Int) 6148914691236517205) = (y1 : Int))
    (k2 : IntKind.u64.wrap (bits BinOp.and IntKind.u64 ((y1 : Int) / 4) 3689348814741910323 + bits BinOp.and IntKind.u64 (y1 : Int) 3689348814741910323) = (y2 : Int))
    (k3 : bits BinOp.and IntKind.u64 (IntKind.u64.wrap ((y2 : Int) / 16 + (y2 : Int))) 1085102592571150095 = (y3 : Int))
    (k4 : IntKind.u64.wrap ((y3 : Int) + (y3 : Int) / 256) = (y4 : Int))
    (k5 : IntKind.u64.wrap ((y4 : Int) + (y4 : Int) / 65536) = (y5 : Int))
    (k6 : IntKind.u64.wrap ((y5 : Int) + (y5 : Int) / 4294967296) = (y6 : Int))
    (k7 : bits BinOp.and IntKind.i64 (y6 : Int) 127 = (r : Int)) (h6 : y6 < 9223372036854775808) :
    Calls Tryd.prog 38 #[.int .u64 x] w fun e w' => e = .returned (.int .i64 r) ∧ w' = w := by
  have h7 := (wrap_small y6 h6).1
  have h8 := (wrap_small y6 h6).2
  go_enter Tryd.func38, Tryd.ntmps38
  go_wp2_with (first | (simp only [k1, k2, k3, k4, k5, k6, h7, h8, k7]) | fail)
  go_ret
  refine ⟨?_, rfl⟩
  set_option linter.unusedSimpArgs false in
  first | rfl | (simp only [k1, k2, k3, k4, k5, k6, h7, h8, k7]; rfl) | (simp only [k1, k2, k3, k4, k5, k6, h7, h8, k7])
theorem oc64_any (x : Nat) (hx : x < 18446744073709551616) (w : World) : Calls Tryd.prog 38 #[.int .u64 x] w fun e w' => e = .returned (.int .i64 (pcN x)) ∧ w' = w := by
  have m1 : mask 85 8 = 6148914691236517205 := rfl
  have m2 : mask 51 8 = 3689348814741910323 := rfl
  have m3 : mask 15 8 = 1085102592571150095 := rfl
  have s1 := swar1 8 x
  have s2 := swar2 8 x
  have s3 := swar3 8 x
  rw [m1] at s1
  rw [m2] at s2
  rw [m3] at s3
  obtain ⟨f1, f2⟩ := fold8 _ x hx (rfl : byM a4 8 x = byM a4 8 x)
  change _ = byM a4 8 x at s3
  generalize byM a4 8 x = y3 at *
  generalize byM (fun r => a2 (a1 r)) 8 x = y2 at *
  generalize byM a1 8 x = y1 at *
  have b1 : x / 2 &&& 6148914691236517205 ≤ 6148914691236517205 := Nat.and_le_right
  have b2 : x &&& 6148914691236517205 ≤ 6148914691236517205 := Nat.and_le_right
  have b3 : y1 / 4 &&& 3689348814741910323 ≤ 3689348814741910323 := Nat.and_le_right
  have b4 : y1 &&& 3689348814741910323 ≤ 3689348814741910323 := Nat.and_le_right
  refine oc64_core x y1 y2 y3 (y3 + y3 / 256) (y3 + y3 / 256 + (y3 + y3 / 256) / 65536) (y3 + y3 / 256 + (y3 + y3 / 256) / 65536 + (y3 + y3 / 256 + (y3 + y3 / 256) / 65536) / 4294967296) (pcN x) w ?_ ?_ ?_ ?_ ?_ ?_ ?_ ?_
  · rw [show (x : Int) / 2 = ((x / 2 : Nat) : Int) by omega, show (6148914691236517205 : Int) = ((6148914691236517205 : Nat) : Int) by rfl, bits_and_u64_nat _ _ (by omega) (by omega), bits_and_u64_nat _ _ (by omega) (by omega), wrap_u64n]
    omega
  · rw [show (y1 : Int) / 4 = ((y1 / 4 : Nat) : Int) by omega, show (3689348814741910323 : Int) = ((3689348814741910323 : Nat) : Int) by rfl, bits_and_u64_nat _ _ (by omega) (by omega), bits_and_u64_nat _ _ (by omega) (by omega), wrap_u64n]
    omega
  · rw [wrap_u64n, show ((y2 : Int) / 16 + (y2 : Int)) % 18446744073709551616 = ((y2 / 16 + y2 : Nat) : Int) by omega, show (1085102592571150095 : Int) = ((1085102592571150095 : Nat) : Int) by rfl, bits_and_u64_nat _ _ (by omega) (by omega), s3]
  · exact sum_wrap y3 _ 256 rfl (by omega)
  · exact sum_wrap (y3 + y3 / 256) _ 65536 rfl (by omega)
  · exact sum_wrap (y3 + y3 / 256 + (y3 + y3 / 256) / 65536) _ 4294967296 rfl (by omega)
  · rw [and_127 _ (by omega), f1]
  · omega
/-- How many 1 bits a number has. -/
theorem ones_any (x : Nat) (hx : x < 18446744073709551616) (w : World) : Calls Tryd.prog 24 #[.int .u64 x] w fun e w' => e = .returned (.int .i64 (pcN x)) ∧ w' = w := by
  have hC : Hid (Calls Tryd.prog 38 #[.int .u64 x] w fun e w' => e = .returned (.int .i64 (pcN x)) ∧ w' = w) := oc64_any x hx w
  go_enter Tryd.func24, Tryd.ntmps24
  go_wp2_with fail
  refine hC.out.mono ?_
  rintro e w' ⟨rfl, rfl⟩
  go_wp2
  go_ret
  exact ⟨rfl, rfl⟩
end Go.Proofs.YtnhfadjlajljlaaDoor
