/- The law FramesOne: a frame's block of which one byte, but the eighth, is another one is none of a frame. -/
import Derived.Test.YtcbmcbcpclgciaaDoorFk
import Derived.Test.YtcbmcbcpclgciaaDoorCu
namespace Go.Proofs.YtcbmcbcpclgciaaDoor
open Go.RowKit

theorem u8_xor_ne {x : UInt8} {m : Int} (h0 : 0 < m) (h1 : m < 256) : ∃ y : UInt8, bits .xor .u8 (x.toNat : Int) m = (y.toNat : Int) ∧ y ≠ x := by
  obtain ⟨b, hb⟩ : ∃ b : UInt8, m = (b.toNat : Int) := ⟨UInt8.ofNat m.toNat, by
    have : (UInt8.ofNat m.toNat).toNat = m.toNat % 256 := by simp
    omega⟩
  subst hb
  refine ⟨x ^^^ b, ?_, ?_⟩
  · rw [u8_xor_nat _ _ (u8_lt _) (u8_lt _), UInt8.toNat_xor]
  · intro h
    have := congrArg (x ^^^ ·) h
    simp [← UInt8.xor_assoc] at this
    subst this
    simp at h0
set_option maxRecDepth 100000 in
set_option maxHeartbeats 4000000 in
theorem one_any (f : Fr) (a m : Int) (w : World) (hT : Tab w) (hT4 : Tab4 w) (ha : 0 ≤ a ∧ a ≤ 255) (hm : 0 ≤ m ∧ m ≤ 255) :
    Calls Tryd.prog 7 #[frV f, .int .u8 a, .int .u8 m] w fun e w' => e = .returned (.bool true) ∧ Below w.heap.size w w' := by
  have HDo : Hid (∀ w : World, Tab w → Tab4 w → Calls Tryd.prog 11 #[] w fun e w' => e = .returned (.bool true) ∧ Below w.heap.size w w') := fun w h h4 => fdoes_any w h h4
  have HE1 : Hid (∀ w : World, Tab w → Tab4 w → Calls Tryd.prog 9 #[frV f] w fun e w' => e = .returned (.tuple #[.string (S (encL f)), .int .i64 (encE f)]) ∧ Below w.heap.size w w') := fun w h h4 => encode_any f w h h4
  have hC : ((encE f == 0) = false ∧ ¬ encE f = 0) ∨ (encE f = 0 ∧ m = 0) ∨ (encE f = 0 ∧ ¬ m = 0 ∧ a % 128 = 7) ∨ (encE f = 0 ∧ ¬ m = 0 ∧ ¬ a % 128 = 7) := by
    by_cases h1 : encE f = 0
    · by_cases h2 : m = 0
      · exact .inr (.inl ⟨h1, h2⟩)
      · by_cases h3 : a % 128 = 7
        · exact .inr (.inr (.inl ⟨h1, h2, h3⟩))
        · exact .inr (.inr (.inr ⟨h1, h2, h3⟩))
    · exact .inl ⟨by simpa using h1, h1⟩
  obtain ⟨K, hK⟩ : ∃ K : Nat, a % 128 = (K : Int) := Int.eq_ofNat_of_zero_le (Int.emod_nonneg _ (by omega))
  have hK1 : K < 128 := by omega
  have HMain : Hid (encE f = 0 → ¬ m = 0 → ¬ K = 7 → ∃ x y : UInt8, (encL f)[K]? = some x ∧ (encL f).length = 128 ∧ bits .xor .u8 (x.toNat : Int) m = (y.toNat : Int) ∧ ∀ w : World, Tab w → Tab4 w → Calls Tryd.prog 12 #[.string (S ((encL f).set K y))] w fun e w' => e = .returned (.tuple #[.agg #[.int .u8 0, .int .i64 0, .int .i64 0, .string ⟨#[]⟩], .int .i64 10]) ∧ Below w.heap.size w w') := fun h1 h2 h3 => by
    have hl := encL_length h1
    obtain ⟨y, hy, hne⟩ := u8_xor_ne (x := (encL f)[K]'(by omega)) (m := m) (by omega) (by omega)
    refine ⟨(encL f)[K]'(by omega), y, List.getElem?_eq_getElem (by omega), hl, hy, fun w h h4 => ?_⟩
    have hno : decB ((encL f).set K y) = false := one_none h1 (by rw [List.length_set, hl]) hK1 h3 (fun j hj => by rw [List.getElem?_set_ne (fun e => hj e.symm)]) (fun e => by
      rw [List.getElem?_set_self (by omega), List.getElem?_eq_getElem (by omega)] at e
      exact hne (Option.some.inj e).symm)
    have := decode_any ((encL f).set K y) w h h4
    rw [(dec_no hno).1, (dec_no hno).2] at this
    exact this
  obtain ⟨k, ep, i, d⟩ := f
  have HX := TS.start (k := k) (e := ep) (i := i) (D := S d) (t := 23) hT hT4
  rw [show frV ⟨k, ep, i, d⟩ = .agg #[.int .u8 k, .int .i64 ep, .int .i64 i, .string (S d)] from rfl] at *
  generalize encE ⟨k, ep, i, d⟩ = M at *
  generalize encL ⟨k, ep, i, d⟩ = X at *
  generalize S d = D at *
  have HC : Hid _ := hC
  clear hC hT hT4
  go_enter Tryd.func7, Tryd.ntmps7
  go_wp2_with fail
  refine (HE1.out _ HX.tab HX.tab4).mono ?_
  rintro e' w1 ⟨rfl, b1⟩
  have HX := HX.next b1
  clear b1
  rcases HC.out with ⟨hM, hM2⟩ | ⟨hM, h0⟩ | ⟨hM, h0, h7⟩ | ⟨hM, h0, h7⟩
  · skip
    clear HC HMain
    go_wp2_with fail
    refine (HDo.out _ HX.tab HX.tab4).mono ?_
    rintro e' w3 ⟨rfl, b3⟩
    have HB := (HX.next b3).below
    clear b3 HX
    go_wp2
    go_ret
    exact ⟨rfl, HB⟩
  · subst hM h0
    clear HC HMain
    go_wp2_with fail
    refine (HDo.out _ HX.tab HX.tab4).mono ?_
    rintro e' w3 ⟨rfl, b3⟩
    have HB := (HX.next b3).below
    clear b3 HX
    go_wp2
    go_ret
    exact ⟨rfl, HB⟩
  · subst hM
    have hm2 : (m == 0) = false := by simpa using h0
    rw [h7] at hK
    clear HC HMain
    go_wp2_with fail
    refine (HDo.out _ HX.tab HX.tab4).mono ?_
    rintro e' w3 ⟨rfl, b3⟩
    have HB := (HX.next b3).below
    clear b3 HX
    go_wp2
    go_ret
    exact ⟨rfl, HB⟩
  · have h7' : ¬ K = 7 := by omega
    obtain ⟨x, y, hx, hl, hy, HD⟩ := HMain.out hM h0 h7'
    have HD1 : Hid _ := HD
    subst hM
    have hm2 : (m == 0) = false := by simpa using h0
    have h72 : (a % 128 == 7) = false := by simpa using h7
    clear HC HMain HD h0
    obtain ⟨C, z, n, w2, hcv, hCl, hR⟩ := row_made w1 (S X)
    rw [S_toList] at hR
    have hsz : (S X).size = 128 := by rw [S_size, hl]
    rw [hsz] at hcv hCl
    have HX0 := HX
    have HX := HX.next hR.below
    have c1 : w2.cell? ⟨w1.heap.size, K, none⟩ = some (.int .u8 (x.toNat : Int)) := by
      rw [hR.cell (by omega), List.getD_eq_getElem?_getD, hx]; rfl
    have f1 : w2.frozen? ⟨w1.heap.size, K, none⟩ = false := hR.open (by omega)
    have HR2 := hR.put (j := K) (by omega) y
    have HB2 : Hid (Below w2.heap.size w2 w2) := Below.refl _ _
    have hcb := HR2.text C
    rw [List.length_set, hl] at hcb
    have HY : Hid (Tab (w2.setCell ⟨w1.heap.size, K, none⟩ (.int .u8 (y.toNat : Int))) ∧ Tab4 (w2.setCell ⟨w1.heap.size, K, none⟩ (.int .u8 (y.toNat : Int))) ∧ Below w.heap.size w (w2.setCell ⟨w1.heap.size, K, none⟩ (.int .u8 (y.toNat : Int)))) := by
      have hb := HR2.below
      exact ⟨HX0.tab.below hb, HX0.tab4.below hb HX0.tab4.lt, HX0.below.trans (hb.mono HX0.size)⟩
    clear hR HR2 HX HX0 hx
    generalize S (X.set K y) = Y at *
    generalize S X = XS at *
    have i1 : (K : Int) < 128 := by omega
    go_wp2_with fail
    refine (HD1.out _ HY.out.1 HY.out.2.1).mono ?_
    rintro e' w3 ⟨rfl, b3⟩
    have hb3 := (Below.refl w3.heap.size w3).alloc (Nat.le_refl _) (.cells #[.int .u8 0, .int .i64 0, .int .i64 0, .string ⟨#[]⟩] 23)
    have T1 : Hid (Tab (w3.alloc (.cells #[.int .u8 0, .int .i64 0, .int .i64 0, .string ⟨#[]⟩] 23))) := (HY.out.1.below b3).below hb3
    have T2 : Hid (Tab4 (w3.alloc (.cells #[.int .u8 0, .int .i64 0, .int .i64 0, .string ⟨#[]⟩] 23))) := (HY.out.2.1.below b3 HY.out.2.1.lt).below hb3 (HY.out.2.1.below b3 HY.out.2.1.lt).lt
    have HB : Hid (Below w.heap.size w (w3.alloc (.cells #[.int .u8 0, .int .i64 0, .int .i64 0, .string ⟨#[]⟩] 23))) := (HY.out.2.2.trans (b3.mono HY.out.2.2.size)).alloc (Nat.le_trans HY.out.2.2.size b3.size) _
    clear b3 hb3 HY c1 f1 hcb hcv
    go_wp2_with fail
    refine (HDo.out _ T1.out T2.out).mono ?_
    rintro e' w4 ⟨rfl, b4⟩
    have HE : Hid (Below w.heap.size w w4) := HB.out.trans (b4.mono HB.out.size)
    clear b4
    go_wp2
    go_ret
    exact ⟨rfl, HE.out⟩
end Go.Proofs.YtcbmcbcpclgciaaDoor
