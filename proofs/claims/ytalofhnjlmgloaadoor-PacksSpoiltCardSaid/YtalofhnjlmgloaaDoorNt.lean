/- What the law PacksSpoilt makes of blocks, plainly. -/
import Derived.Test.YtalofhnjlmgloaaDoorPm6
namespace Go.Proofs.YtalofhnjlmgloaaDoor
open Go.RowKit

/-- A block that stands at another one's place. -/
theorem blk_bad {k e : Int} {d : List UInt8} {M : List (List UInt8)} {i j : Nat} (h : splitE k e d = 0) (hi : i < cntN d.length) (hM : M[j]? = some (encL (frP k e d i))) (hne : i ≠ j) : joinB M k e = false := by
  refine bad_join hM fun hg => ?_
  have h4 := hg.2.2.2.1
  rw [(blk_dec h hi).2] at h4
  have : (i : Int) = (j : Int) := h4
  omega
/-- A block without its first part. -/
def tornL (b : List UInt8) : List UInt8 := List.replicate 32 0 ++ b.drop 32
theorem torn_bad {k e : Int} {d : List UInt8} {M : List (List UInt8)} {i : Nat} (h : splitE k e d = 0) (hi : i < cntN d.length) (hM : M[i]? = some (tornL (encL (frP k e d i)))) : joinB M k e = false := by
  obtain ⟨h1, h2⟩ := splitE_ok.1 h
  have hlen := encL_length (frP_ok (d := d) (i := i) h2 (by omega))
  refine bad_join hM fun hg => ?_
  have : decB (tornL (encL (frP k e d i))) = false := by
    refine torn_none (torn_of (j := 0) (by unfold tornL; simp [hlen]) (by omega) ?_)
    unfold markB tornL
    rw [List.getElem?_append_left (by simp)]
    simp
  have h1 := hg.1
  rw [this] at h1
  exact absurd h1 (by decide)
section
variable {k e : Int} {d : List UInt8} {i j : Nat}
theorem spoil0 (h : splitE k e d = 0) (hi : i < cntN d.length) : joinB (((blkL k e d).take i ++ [tornL (encL (frP k e d i))]) ++ (blkL k e d).drop (i + 1)) k e = false := by
  refine torn_bad h hi ?_
  have hl : ((blkL k e d).take i).length = i := by rw [List.length_take, blkL_length]; omega
  rw [List.getElem?_append_left (by simp [hl]), List.getElem?_append_right (by omega), hl]
  simp
theorem spoil1 (h : splitE k e d = 0) (hi : i + 1 < cntN d.length) : joinB ((blkL k e d).take i ++ (blkL k e d).drop (i + 1)) k e = false := by
  refine blk_bad (i := i + 1) (j := i) h hi ?_ (by omega)
  have hl : ((blkL k e d).take i).length = i := by rw [List.length_take, blkL_length]; omega
  rw [List.getElem?_append_right (by omega), hl, List.getElem?_drop, Nat.sub_self]
  exact blkL_get hi
theorem spoil2 (h : splitE k e d = 0) (hi : i < cntN d.length) : joinB ((blkL k e d).take (i + 1) ++ (blkL k e d).drop i) k e = false := by
  refine blk_bad (i := i) (j := i + 1) h hi ?_ (by omega)
  have hl : ((blkL k e d).take (i + 1)).length = i + 1 := by rw [List.length_take, blkL_length]; omega
  rw [List.getElem?_append_right (by omega), hl, List.getElem?_drop, Nat.sub_self]
  exact blkL_get hi
theorem spoil3 (h : splitE k e d = 0) (hi : i < cntN d.length) (hj : j < cntN d.length) (hne : i ≠ j) : joinB (((blkL k e d).set i (encL (frP k e d j))).set j (encL (frP k e d i))) k e = false := by
  refine blk_bad (i := j) (j := i) h hj ?_ (fun h => hne h.symm)
  rw [List.getElem?_set_ne (fun h => hne h.symm), List.getElem?_set_self (by rw [blkL_length]; exact hi)]
end
end Go.Proofs.YtalofhnjlmgloaaDoor
