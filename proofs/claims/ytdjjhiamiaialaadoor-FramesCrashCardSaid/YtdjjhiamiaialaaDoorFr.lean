/- What a crash leaves of a block that is being written, plainly. -/
import Derived.Test.YtdjjhiamiaialaaDoorKw
import Derived.Test.YtdjjhiamiaialaaDoorFm
namespace Go.Proofs.YtdjjhiamiaialaaDoor
open Go.RowKit

theorem torn_get (L : List UInt8) (hL : L.length = 128) (n : Int) (i : Nat) (hi : i < 128) : (txt (tornB (ofT L) n))[i]? = some (if n / 2 ^ (i / 32) % 2 = 1 then L[i]?.getD 0 else 0) := by
  rw [txt_getElem _ _ hi]
  unfold tornB
  by_cases h : n / 2 ^ (i / 32) % 2 = 1
  · rw [if_pos h, if_pos h]
    have e := txt_getElem (ofT L) i hi
    rw [txt_ofT L hL] at e
    rw [e]; rfl
  · rw [if_neg h, if_neg h]
theorem torn_len (L : List UInt8) (n : Int) : (txt (tornB (ofT L) n)).length = 128 := txt_length _
theorem torn_whole (L : List UInt8) (hL : L.length = 128) (n : Int) (h : n % 16 = 15) : txt (tornB (ofT L) n) = L := by
  apply List.ext_getElem?
  intro i
  by_cases hi : i < 128
  · have hb : n / 2 ^ (i / 32) % 2 = 1 := by
      have hd : i / 32 = 0 ∨ i / 32 = 1 ∨ i / 32 = 2 ∨ i / 32 = 3 := by omega
      rcases hd with e | e | e | e <;> rw [e] <;> simp <;> omega
    rw [torn_get L hL n i hi, if_pos hb, List.getElem?_eq_getElem (by omega)]; rfl
  · rw [List.getElem?_eq_none (by rw [torn_len]; omega), List.getElem?_eq_none (by omega)]
theorem torn_lack (L : List UInt8) (hL : L.length = 128) (n : Int) (h : ¬ n % 16 = 15) : lackB (txt (tornB (ofT L) n)) = true := by
  have hex : ∃ j, j < 4 ∧ ¬ n / 2 ^ j % 2 = 1 := by
    by_cases b0 : n / 2 ^ 0 % 2 = 1
    · by_cases b1 : n / 2 ^ 1 % 2 = 1
      · by_cases b2 : n / 2 ^ 2 % 2 = 1
        · refine ⟨3, by omega, fun b3 => h ?_⟩
          simp at b0 b1 b2 b3
          omega
        · exact ⟨2, by omega, b2⟩
      · exact ⟨1, by omega, b1⟩
    · exact ⟨0, by omega, b0⟩
  obtain ⟨j, hj, hb⟩ := hex
  refine torn_of (torn_len L n) hj ?_
  unfold markB
  rw [torn_get L hL n _ (by omega), show (32 * j + 31) / 32 = j by omega, if_neg hb]; rfl
/-- The device of the law, step by step. -/
def cw (L : List UInt8) : Dv := (writeD (newD 4) 2 L).2
def cc (L : List UInt8) (n : Int) : Dv := (crashE (cw L) [n]).2
def cs (L : List UInt8) (n : Int) : Dv := (startD (cc L n)).2
theorem cw_eq (L : List UInt8) (hL : L.length = 128) : writeD (newD 4) 2 L = (0, actD (newD 4) (.wr 2 (ofT L))) := by
  simp [writeD, newD, hL, stAtD, doD, endD, failsD, actD, blank]
theorem cc_eq (L : List UInt8) (n : Int) (hL : L.length = 128) : crashE (cw L) [n] = (0, crashD (actD (newD 4) (.wr 2 (ofT L))) [n]) := by
  unfold cw
  rw [cw_eq L hL]
  simp [crashE, actD, newD]
theorem cs_eq (L : List UInt8) (n : Int) (hL : L.length = 128) : (startD (cc L n)).1 = 0 := by
  unfold cc
  rw [cc_eq L n hL]
  simp [startD, crashD]
theorem cr_eq (L : List UInt8) (n : Int) (hL : L.length = 128) : readD (cs L n) 2 = if n % 16 = 0 then ([], 41) else (txt (tornB (ofT L) n), 0) := by
  unfold cs cc
  rw [cc_eq L n hL]
  by_cases h : n % 16 = 0
  · simp [startD, crashD, actD, newD, crashN, readD, keptB, h, blank, Ac.at_]
  · simp [startD, crashD, actD, newD, crashN, readD, keptB, h, blank, Ac.at_]
end Go.Proofs.YtdjjhiamiaialaaDoor
