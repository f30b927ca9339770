/- The law FramesMarks: a block is torn just if it has 128 bytes, and one of the bytes 31, 63, 95 and 127 is not the mark; one that is torn is none of a frame. -/
import Derived.Test.YtcbmcbcpclgciabDoorFj
import Derived.Deep.DeepCutAuto
import Derived.Deep.QuietTactic
namespace Go.Proofs.YtcbmcbcpclgciabDoor
open Go.RowKit

/-- Is one of the first m marks another byte? -/
def lackM (b : List UInt8) : Nat → Bool
  | 0 => false
  | m + 1 => lackM b m || !markB b m
theorem lackM_all (b : List UInt8) (h : b.length = 128) : lackM b 4 = lackB b := by
  simp only [lackM, lackB, h]
  cases markB b 0 <;> cases markB b 1 <;> cases markB b 2 <;> cases markB b 3 <;> rfl
theorem mark_byte (b : List UInt8) (m J : Nat) (hJ : J = 31 + 32 * m) (h : J < (S b).size) : markB b m = decide ((((S b)[J]'h).toNat : Int) = 165) := by
  subst hJ
  have hl : 31 + 32 * m < b.length := by rw [S_size] at h; exact h
  unfold markB
  rw [show 32 * m + 31 = 31 + 32 * m by omega, List.getElem?_eq_getElem hl]
  have e : ((S b)[31 + 32 * m]'h) = b[31 + 32 * m] := rfl
  generalize ((S b)[31 + 32 * m]'h) = X at e
  rw [e, Bool.eq_iff_iff]
  simp only [beq_iff_eq, Option.some.injEq, decide_eq_true_eq]
  constructor
  · intro h; rw [h]; rfl
  · intro h; apply UInt8.toNat_inj.1; show _ = 165; omega
set_option maxRecDepth 100000 in
set_option maxHeartbeats 4000000 in
theorem marks_any (b : List UInt8) (w : World) (hT : Tab w) (hT4 : Tab4 w) (hs : b.length ≤ 140737488351232) :
    Calls Tryd.prog 3 #[.string (S b)] w fun e w' => e = .returned (.bool true) ∧ Below w.heap.size w w' := by
  have HDo : Hid (∀ w : World, Tab w → Tab4 w → Calls Tryd.prog 7 #[] w fun e w' => e = .returned (.bool true) ∧ Below w.heap.size w w') := fun w h h4 => fdoes_any w h h4
  have HL : Hid (∀ w : World, Calls Tryd.prog 6 #[.string (S b)] w fun e w' => e = .returned (.bool (lackB b)) ∧ Below w.heap.size w w') := fun w => lack_any b w
  obtain ⟨k2, e2, i2, D2, hV⟩ : ∃ k2 e2 i2 D2, frV (decF b) = .agg #[.int .u8 k2, .int .i64 e2, .int .i64 i2, .string D2] := ⟨_, _, _, _, rfl⟩
  have HD : Hid (∀ w : World, Tab w → Tab4 w → Calls Tryd.prog 5 #[.string (S b)] w fun e w' => e = .returned (.tuple #[.agg #[.int .u8 k2, .int .i64 e2, .int .i64 i2, .string D2], .int .i64 (decE b)]) ∧ Below w.heap.size w w') := fun w h h4 => by rw [← hV]; exact decode_any b w h h4
  have hC : lackB b = false ∨ (lackB b = true ∧ decE b = 10) := by
    cases h : lackB b with
    | false => exact .inl rfl
    | true => exact .inr ⟨rfl, (dec_no (torn_none h)).2⟩
  generalize decE b = N at *
  clear hV
  have HC : Hid _ := hC
  clear hC
  have Hend : Hid (∀ w1 w2 : World, Below w.heap.size w w1 → Below w1.heap.size w1 w2 → Tab w1 → Tab4 w1 → Tab w2 ∧ Tab4 w2 ∧ Below w.heap.size w w2) := fun w1 w2 h b t t4 => ⟨t.below b, t4.below b t4.lt, h.trans (b.mono h.size)⟩
  by_cases hl : b.length = 128
  · have hsz : (S b).size = 128 := by rw [S_size, hl]
    have HLa : Hid (lackM b 4 = lackB b) := lackM_all b hl
    have HM : Hid (∀ m J (_ : J = 31 + 32 * m) (h : J < (S b).size), markB b m = decide ((((S b)[J]'h).toNat : Int) = 165)) := fun m J hJ h => mark_byte b m J hJ h
    clear hl hs
    generalize S b = A at *
    go_enter Tryd.func3, Tryd.ntmps3
    go_wp2_with fail
    go_loop [3, 4] (fun t i => ∃ m J : Nat, m ≤ 4 ∧ J = 31 + 32 * m ∧ i = .int .i64 (J : Int) ∧ t = .bool (lackM b m)) (fun _ i => 159 - (intOf i).toNat)
    case atStart => exact ⟨0, 31, Nat.zero_le _, rfl, rfl, rfl⟩
    case round =>
      obtain ⟨m, J, hm, hJ, rfl, rfl⟩ := hrel
      by_cases hlt : m < 4
      · have hi : J < A.size := by omega
        have hmk := HM.out m J hJ hi
        have g1 : (J : Int) < 128 := by omega
        have HJ : Hid (J = 31 + 32 * m) := hJ
        have HS : Hid (lackM b (m + 1) = (lackM b m || !markB b m)) := rfl
        cases ht : lackM b m with
        | true =>
          have HT2 : Hid (lackM b (m + 1) = true) := by show _ = _; rw [HS.out, ht]; rfl
          clear hmk HS ht hJ hm
          go_wp2
          go_round
          case rel => exact ⟨m + 1, J + 32, by have := HJ.out; omega, by have := HJ.out; omega, by go_num, by rw [HT2.out]⟩
          case measure => simp [intOf]; omega
        | false =>
          by_cases h165 : ((A[J]'hi).toNat : Int) = 165
          · have HT2 : Hid (lackM b (m + 1) = false) := by show _ = _; rw [HS.out, ht, hmk, decide_eq_true h165]; rfl
            clear hmk HS ht hJ hm
            go_wp2
            go_round
            case rel => exact ⟨m + 1, J + 32, by have := HJ.out; omega, by have := HJ.out; omega, by go_num, by rw [HT2.out]⟩
            case measure => simp [intOf]; omega
          · have HT2 : Hid (lackM b (m + 1) = true) := by show _ = _; rw [HS.out, ht, hmk, decide_eq_false h165]; rfl
            have h166 : (((A[J]'hi).toNat : Int) == 165) = false := by simpa using h165
            clear hmk HS ht h165 hJ hm
            go_wp2
            go_round
            case rel => exact ⟨m + 1, J + 32, by have := HJ.out; omega, by have := HJ.out; omega, by go_num, by rw [HT2.out]; first | rfl | (rw [bne, h166]; rfl)⟩
            case measure => simp [intOf]; omega
      · obtain rfl : m = 4 := by omega
        obtain rfl : J = 159 := by omega
        rw [HLa.out]
        clear HLa HM
        rcases HC.out with hc | ⟨hc, hN⟩
        · rw [hc] at HL ⊢
          clear HC hc
          go_wp2_with fail
          refine (HD.out _ hT hT4).mono ?_
          rintro e' w1 ⟨rfl, b1⟩
          have b1 := b1.trans (((Below.refl w1.heap.size w1).alloc (Nat.le_refl _) (.cells #[.int .u8 k2, .int .i64 e2, .int .i64 i2, .string D2] 23)).mono b1.size)
          have HX : Hid (Tab (w1.alloc (.cells #[.int .u8 k2, .int .i64 e2, .int .i64 i2, .string D2] 23)) ∧ Tab4 (w1.alloc (.cells #[.int .u8 k2, .int .i64 e2, .int .i64 i2, .string D2] 23)) ∧ Below w.heap.size w (w1.alloc (.cells #[.int .u8 k2, .int .i64 e2, .int .i64 i2, .string D2] 23))) := ⟨hT.below b1, hT4.below b1 hT4.lt, b1⟩
          clear b1
          go_wp2_with fail
          refine (HL.out _).mono ?_
          rintro e' w2 ⟨rfl, b2⟩
          have HX2 : Hid _ := Hend.out _ _ HX.out.2.2 b2 HX.out.1 HX.out.2.1
          clear b2 HX
          go_wp2_with fail
          refine (HDo.out _ HX2.out.1 HX2.out.2.1).mono ?_
          rintro e' w3 ⟨rfl, b3⟩
          have HX3 : Hid _ := Hend.out _ _ HX2.out.2.2 b3 HX2.out.1 HX2.out.2.1
          clear b3 HX2
          go_wp2
          go_ret
          exact ⟨rfl, HX3.out.2.2⟩
        · rw [hc] at HL ⊢
          subst hN
          clear HC hc
          go_wp2_with fail
          refine (HD.out _ hT hT4).mono ?_
          rintro e' w1 ⟨rfl, b1⟩
          have b1 := b1.trans (((Below.refl w1.heap.size w1).alloc (Nat.le_refl _) (.cells #[.int .u8 k2, .int .i64 e2, .int .i64 i2, .string D2] 23)).mono b1.size)
          have HX : Hid (Tab (w1.alloc (.cells #[.int .u8 k2, .int .i64 e2, .int .i64 i2, .string D2] 23)) ∧ Tab4 (w1.alloc (.cells #[.int .u8 k2, .int .i64 e2, .int .i64 i2, .string D2] 23)) ∧ Below w.heap.size w (w1.alloc (.cells #[.int .u8 k2, .int .i64 e2, .int .i64 i2, .string D2] 23))) := ⟨hT.below b1, hT4.below b1 hT4.lt, b1⟩
          clear b1
          go_wp2_with fail
          refine (HL.out _).mono ?_
          rintro e' w2 ⟨rfl, b2⟩
          have HX2 : Hid _ := Hend.out _ _ HX.out.2.2 b2 HX.out.1 HX.out.2.1
          clear b2 HX
          go_wp2_with fail
          refine (HDo.out _ HX2.out.1 HX2.out.2.1).mono ?_
          rintro e' w3 ⟨rfl, b3⟩
          have HX3 : Hid _ := Hend.out _ _ HX2.out.2.2 b3 HX2.out.1 HX2.out.2.1
          clear b3 HX2
          go_wp2
          go_ret
          exact ⟨rfl, HX3.out.2.2⟩
  · have hno : lackB b = false := by simp [lackB, hl]
    rw [hno] at HL
    have hz : (((S b).size : Int) == 128) = false := by rw [S_size]; simp; omega
    have hzs : (S b).size ≤ 140737488351232 := by rw [S_size]; exact hs
    clear hl hs HC hno
    generalize S b = A at *
    by_cases h31 : (31 : Int) < (A.size : Int)
    · go_enter Tryd.func3, Tryd.ntmps3
      go_wp2_with fail
      refine wp_loop_rounds 1 ?_
      rw [rounds_succ]
      go_wp2_with fail
      refine (HD.out _ hT hT4).mono ?_
      rintro e' w1 ⟨rfl, b1⟩
      have b1 := b1.trans (((Below.refl w1.heap.size w1).alloc (Nat.le_refl _) (.cells #[.int .u8 k2, .int .i64 e2, .int .i64 i2, .string D2] 23)).mono b1.size)
      have HX : Hid (Tab (w1.alloc (.cells #[.int .u8 k2, .int .i64 e2, .int .i64 i2, .string D2] 23)) ∧ Tab4 (w1.alloc (.cells #[.int .u8 k2, .int .i64 e2, .int .i64 i2, .string D2] 23)) ∧ Below w.heap.size w (w1.alloc (.cells #[.int .u8 k2, .int .i64 e2, .int .i64 i2, .string D2] 23))) := ⟨hT.below b1, hT4.below b1 hT4.lt, b1⟩
      clear b1
      go_wp2_with fail
      refine (HL.out _).mono ?_
      rintro e' w2 ⟨rfl, b2⟩
      have HX2 : Hid _ := Hend.out _ _ HX.out.2.2 b2 HX.out.1 HX.out.2.1
      clear b2 HX
      go_wp2_with fail
      refine (HDo.out _ HX2.out.1 HX2.out.2.1).mono ?_
      rintro e' w3 ⟨rfl, b3⟩
      have HX3 : Hid _ := Hend.out _ _ HX2.out.2.2 b3 HX2.out.1 HX2.out.2.1
      clear b3 HX2
      go_wp2
      go_ret
      exact ⟨rfl, HX3.out.2.2⟩
    · go_enter Tryd.func3, Tryd.ntmps3
      go_wp2_with fail
      refine wp_loop_rounds 1 ?_
      rw [rounds_succ]
      go_wp2_with fail
      refine (HD.out _ hT hT4).mono ?_
      rintro e' w1 ⟨rfl, b1⟩
      have b1 := b1.trans (((Below.refl w1.heap.size w1).alloc (Nat.le_refl _) (.cells #[.int .u8 k2, .int .i64 e2, .int .i64 i2, .string D2] 23)).mono b1.size)
      have HX : Hid (Tab (w1.alloc (.cells #[.int .u8 k2, .int .i64 e2, .int .i64 i2, .string D2] 23)) ∧ Tab4 (w1.alloc (.cells #[.int .u8 k2, .int .i64 e2, .int .i64 i2, .string D2] 23)) ∧ Below w.heap.size w (w1.alloc (.cells #[.int .u8 k2, .int .i64 e2, .int .i64 i2, .string D2] 23))) := ⟨hT.below b1, hT4.below b1 hT4.lt, b1⟩
      clear b1
      go_wp2_with fail
      refine (HL.out _).mono ?_
      rintro e' w2 ⟨rfl, b2⟩
      have HX2 : Hid _ := Hend.out _ _ HX.out.2.2 b2 HX.out.1 HX.out.2.1
      clear b2 HX
      go_wp2_with fail
      refine (HDo.out _ HX2.out.1 HX2.out.2.1).mono ?_
      rintro e' w3 ⟨rfl, b3⟩
      have HX3 : Hid _ := Hend.out _ _ HX2.out.2.2 b3 HX2.out.1 HX2.out.2.1
      clear b3 HX2
      go_wp2
      go_ret
      exact ⟨rfl, HX3.out.2.2⟩
end Go.Proofs.YtcbmcbcpclgciabDoor
