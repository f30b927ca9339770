/- The state behind a text's whole blocks, a writer's cells: nothing of the program. -/
import Derived.Test.YtficmbaffkkfhaaDoorW4
namespace Go.Proofs.YtficmbaffkkfhaaDoor
open Go.RowKit

/-- The state behind a text's first n blocks. -/
def stAt (l : List UInt8) : Nat → Nat → W32
  | 0 => ini
  | n + 1 => bhd (stAt l n) ((l.drop (64 * n)).take 64)
/-- The state behind its whole blocks. -/
def stOf (l : List UInt8) : Nat → W32 := stAt l (l.length / 64)
theorem stAt_append (l p : List UInt8) : ∀ n, 64 * n ≤ l.length → stAt (l ++ p) n = stAt l n
  | 0, _ => rfl
  | n + 1, h => by
    rw [stAt, stAt, stAt_append l p n (by omega)]
    congr 1
    rw [List.drop_append_of_le_length (by omega), List.take_append_of_le_length (by simp; omega)]
theorem stOf_some (l x : List UInt8) (h : l.length % 64 + x.length < 64) : stOf (l ++ x) = stOf l := by
  unfold stOf
  rw [show (l ++ x).length / 64 = l.length / 64 by simp; omega]
  exact stAt_append l x _ (by omega)
theorem stOf_full (l x : List UInt8) (h : l.length % 64 + x.length = 64) : stOf (l ++ x) = bhd (stOf l) (l.drop (l.length / 64 * 64) ++ x) := by
  unfold stOf
  rw [show (l ++ x).length / 64 = l.length / 64 + 1 by simp; omega, stAt, stAt_append l x _ (by omega)]
  congr 1
  rw [List.drop_append_of_le_length (by omega), Nat.mul_comm, List.take_of_length_le (by simp; omega)]
/-- A writer's cells. -/
def wc (st : Nat → W32) (pd : List UInt8) (n : Nat) : Array Value := (Value.bool true :: ((cf 8 st).toList ++ ((hv pd).toList ++ [Value.int .u64 (n : Int)]))).toArray
theorem wc_size (st : Nat → W32) {pd : List UInt8} (n : Nat) (h : pd.length = 64) : (wc st pd n).size = 74 := by
  simp [wc, hv, cf, h]
theorem wc_0 (st : Nat → W32) (pd : List UInt8) (n : Nat) : (wc st pd n)[0]? = some (.bool true) := by simp [wc]
theorem wc_list (st : Nat → W32) (pd : List UInt8) (n : Nat) : (wc st pd n).toList = Value.bool true :: ((cf 8 st).toList ++ ((hv pd).toList ++ [Value.int .u64 (n : Int)])) := rfl
theorem cf_len (st : Nat → W32) : (cf 8 st).toList.length = 8 := by simp [cf]
theorem hv_len (pd : List UInt8) : (hv pd).toList.length = pd.length := by simp [hv]
theorem wc_73 (st : Nat → W32) {pd : List UInt8} (n : Nat) (h : pd.length = 64) : (wc st pd n)[73]? = some (.int .u64 (n : Int)) := by
  rw [← Array.getElem?_toList, wc_list, List.getElem?_cons_succ, List.getElem?_append_right (by rw [cf_len]; omega), List.getElem?_append_right (by rw [cf_len, hv_len]; omega), cf_len, hv_len, h]
  rfl
theorem wc_set73 (st : Nat → W32) {pd : List UInt8} (n m : Nat) (h : pd.length = 64) : (wc st pd n).setIfInBounds 73 (.int .u64 (m : Int)) = wc st pd m := by
  apply Array.toList_inj.1
  rw [Array.toList_setIfInBounds, wc_list, wc_list, List.set_cons_succ, List.set_append_right _ _ (by rw [cf_len]; omega), List.set_append_right _ _ (by rw [cf_len, hv_len]; omega), cf_len, hv_len, h]
  rfl
theorem wc_state (st st' : Nat → W32) (pd : List UInt8) (n : Nat) : ((wc st pd n).toList.take 1 ++ (cf 8 st').toList ++ (wc st pd n).toList.drop (1 + (cf 8 st').size)).toArray = wc st' pd n := by
  rw [cf_size]
  apply Array.toList_inj.1
  rw [wc_list, wc_list]
  show [Value.bool true] ++ (cf 8 st').toList ++ List.drop 8 ((cf 8 st).toList ++ ((hv pd).toList ++ [Value.int .u64 (n : Int)])) = _
  rw [List.drop_left' (cf_len st)]
  simp
theorem wc_copy (st : Nat → W32) {pd : List UInt8} (x : List UInt8) (n at_ m : Nat) (h : pd.length = 64) (hm : x.length = m) (hfit : at_ + m ≤ 64) :
    ((wc st pd n).toList.take (9 + at_) ++ (hv x).toList ++ (wc st pd n).toList.drop (9 + at_ + m)).toArray = wc st (pd.take at_ ++ x ++ pd.drop (at_ + m)) n := by
  apply Array.toList_inj.1
  rw [wc_list, wc_list]
  have e1 : List.take (9 + at_) (Value.bool true :: ((cf 8 st).toList ++ ((hv pd).toList ++ [Value.int .u64 (n : Int)]))) = Value.bool true :: ((cf 8 st).toList ++ (hv (pd.take at_)).toList) := by
    rw [show 9 + at_ = (8 + at_) + 1 by omega, List.take_succ_cons, List.take_append, cf_len, show 8 + at_ - 8 = at_ by omega, List.take_of_length_le (by rw [cf_len]; omega), List.take_append_of_le_length (by rw [hv_len]; omega)]
    simp [hv]
  have e2 : List.drop (9 + at_ + m) (Value.bool true :: ((cf 8 st).toList ++ ((hv pd).toList ++ [Value.int .u64 (n : Int)]))) = (hv (pd.drop (at_ + m))).toList ++ [Value.int .u64 (n : Int)] := by
    rw [show 9 + at_ + m = (8 + (at_ + m)) + 1 by omega, List.drop_succ_cons, List.drop_append, cf_len, show 8 + (at_ + m) - 8 = at_ + m by omega, List.drop_of_length_le (by rw [cf_len]; omega), List.drop_append_of_le_length (by rw [hv_len]; omega)]
    simp [hv]
  rw [show (List.take (9 + at_) (Value.bool true :: ((cf 8 st).toList ++ ((hv pd).toList ++ [Value.int .u64 (n : Int)]))) ++ (hv x).toList ++ List.drop (9 + at_ + m) (Value.bool true :: ((cf 8 st).toList ++ ((hv pd).toList ++ [Value.int .u64 (n : Int)])))).toArray.toList = List.take (9 + at_) (Value.bool true :: ((cf 8 st).toList ++ ((hv pd).toList ++ [Value.int .u64 (n : Int)]))) ++ (hv x).toList ++ List.drop (9 + at_ + m) (Value.bool true :: ((cf 8 st).toList ++ ((hv pd).toList ++ [Value.int .u64 (n : Int)]))) from rfl, e1, e2]
  simp [hv]
end Go.Proofs.YtficmbaffkkfhaaDoor
