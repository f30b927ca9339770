/- What stands at a place of bytes that were put one behind the other. -/
import Derived.Test.YthefmkmgiblngabDoorWh
namespace Go.Proofs.YthefmkmgiblngabDoor
open Go.RowKit

theorem win_at (A t B : List UInt8) : win (S (A ++ t ++ B)) A.length t.length = t := by
  unfold win
  rw [S_toList, List.append_assoc, List.drop_left]
  exact List.take_left
theorem win_at' (A t B : List UInt8) (k : Nat) (h : t.length = k) : win (S (A ++ t ++ B)) A.length k = t := by
  subst h; exact win_at A t B
/-- A text that was put is read, whatever stands ahead of it and behind. -/
theorem txt_at (A t B : List UInt8) (h : t.length ≤ 65535) : txtV (S (A ++ putT t ++ B)) A.length = .tuple #[.string (S t), .int .i64 (A.length + 2 + t.length), .bool true] := by
  have e1 : A ++ putT t ++ B = A ++ bytesOf t.length 2 ++ (t ++ B) := by simp [putT]
  have e2 : A ++ putT t ++ B = (A ++ bytesOf t.length 2) ++ t ++ B := by simp [putT]
  have w1 : win (S (A ++ putT t ++ B)) A.length 2 = bytesOf t.length 2 := by rw [e1]; exact win_at' _ _ _ _ (by simp)
  have w2 : win (S (A ++ putT t ++ B)) (A.length + 2) t.length = t := by
    have := win_at (A ++ bytesOf t.length 2) t B
    rw [e2]
    simpa using this
  have hl : tlen (S (A ++ putT t ++ B)) A.length = t.length := by
    unfold tlen
    rw [w1, numL_bytesOf 2 _ (by omega) (by simp only [Int.reducePow]; omega)]
    simp
  have hs : (S (A ++ putT t ++ B)).size = A.length + 2 + t.length + B.length := by rw [S_size]; simp [putT]; omega
  have hb : txtB (S (A ++ putT t ++ B)) A.length = true := txtB_iff.2 ⟨by omega, by omega, by rw [Int.toNat_natCast, hl]; omega⟩
  rw [txtV_yes hb, Int.toNat_natCast, hl, w2]
/-- A number that was put is read. -/
theorem num_at (A B : List UInt8) (n : Int) (k : Nat) (hk : isSz k = true) (h0 : 0 ≤ n) (h1 : n < lim k) : getV (S (A ++ bytesOf n k ++ B)) A.length k = .tuple #[.int .i64 n, .int .i64 (A.length + k), .bool true] := by
  have hsz := isSz_of hk
  have w1 : win (S (A ++ bytesOf n k ++ B)) A.length k = bytesOf n k := win_at' _ _ _ _ (by simp)
  have hs : (S (A ++ bytesOf n k ++ B)).size = A.length + k + B.length := by rw [S_size]; simp; omega
  have hst : stB (S (A ++ bytesOf n k ++ B)) A.length k = true := stB_iff.2 (by omega)
  have hp : n < 256 ^ k := by
    have : k = 1 ∨ k = 2 ∨ k = 4 ∨ k = 8 := by omega
    rcases this with rfl | rfl | rfl | rfl <;> simp [lim] at h1 <;> simp only [Int.reducePow] <;> omega
  have hlt : A.length < (S (A ++ bytesOf n k ++ B)).size := by omega
  have hb : getB (S (A ++ bytesOf n k ++ B)) A.length k = true := by
    unfold getB
    rw [hk, hst]
    by_cases h8 : k = 8
    · subst h8
      have hh : hiB (S (A ++ bytesOf n 8 ++ B)) A.length = false := by
        rw [hiB_eq _ _ hlt]
        apply decide_eq_false
        have e : bytesOf n 8 = by8 (n / 256 ^ 7) :: bytesOf n 7 := bytesOf_cons 7 n
        have w8 := win_cons (S (A ++ bytesOf n 8 ++ B)) A.length 7 hlt
        rw [w1] at w8
        have hb8 := congrArg List.head? w8
        rw [show (bytesOf n 8).head? = some (by8 (n / 256 ^ 7)) by rw [e]; rfl, List.head?_cons] at hb8
        rw [← Option.some.inj hb8]
        have := by8_num (n / 256 ^ 7)
        simp [lim] at h1
        simp only [Int.reducePow] at this ⊢
        omega
      rw [Int.toNat_natCast, hh]; rfl
    · have : ((k : Int) == 8) = false := by simp; omega
      simp [this]
  rw [getV_yes hb, Int.toNat_natCast, Int.toNat_natCast, w1, numL_bytesOf k n h0 hp]
/-- A hash that was put is read. -/
theorem hash_at (A l B : List UInt8) (hl : l.length = 32) : ghV (S (A ++ l ++ B)) A.length = .tuple #[.agg (hv l), .int .i64 (A.length + 32), .bool true] := by
  have hs : (S (A ++ l ++ B)).size = A.length + 32 + B.length := by rw [S_size]; simp; omega
  have hst : stB (S (A ++ l ++ B)) A.length 32 = true := stB_iff.2 (by omega)
  rw [ghV_yes hst, Int.toNat_natCast, win_at' A l B 32 hl]
end Go.Proofs.YthefmkmgiblngabDoor
