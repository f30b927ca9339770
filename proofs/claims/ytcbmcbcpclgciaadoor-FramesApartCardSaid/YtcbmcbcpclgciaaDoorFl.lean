/- The law FramesApart: unlike frames have unlike blocks. -/
import Derived.Test.YtcbmcbcpclgciaaDoorFk
namespace Go.Proofs.YtcbmcbcpclgciaaDoor
open Go.RowKit

set_option maxRecDepth 100000 in
set_option maxHeartbeats 4000000 in
theorem apart_any (f g : Fr) (w : World) (hT : Tab w) (hT4 : Tab4 w) :
    Calls Tryd.prog 8 #[frV f, frV g] w fun e w' => e = .returned (.bool true) ∧ Below w.heap.size w w' := by
  have HDo : Hid (∀ w : World, Tab w → Tab4 w → Calls Tryd.prog 11 #[] w fun e w' => e = .returned (.bool true) ∧ Below w.heap.size w w') := fun w h h4 => fdoes_any w h h4
  have HE1 : Hid (∀ w : World, Tab w → Tab4 w → Calls Tryd.prog 9 #[frV f] w fun e w' => e = .returned (.tuple #[.string (S (encL f)), .int .i64 (encE f)]) ∧ Below w.heap.size w w') := fun w h h4 => encode_any f w h h4
  have HE2 : Hid (∀ w : World, Tab w → Tab4 w → Calls Tryd.prog 9 #[frV g] w fun e w' => e = .returned (.tuple #[.string (S (encL g)), .int .i64 (encE g)]) ∧ Below w.heap.size w w') := fun w h h4 => encode_any g w h h4
  have hC : (encE f == 0) = false ∨ (encE f = 0 ∧ (encE g == 0) = false) ∨ (encE f = 0 ∧ encE g = 0 ∧ f = g) ∨ (encE f = 0 ∧ encE g = 0 ∧ ((S (encL f)).toList == (S (encL g)).toList) = false ∧ (¬ f.k = g.k ∨ (f.k = g.k ∧ ¬ f.e = g.e) ∨ (f.k = g.k ∧ f.e = g.e ∧ ¬ f.i = g.i) ∨ (f.k = g.k ∧ f.e = g.e ∧ f.i = g.i ∧ ¬ (S f.d).toList = (S g.d).toList))) := by
    by_cases h1 : encE f = 0
    · by_cases h2 : encE g = 0
      · refine .inr (.inr ?_)
        by_cases hfg : f = g
        · exact .inl ⟨h1, h2, hfg⟩
        · refine .inr ⟨h1, h2, S_ne fun h => hfg (enc_inj h1 h2 h), ?_⟩
          by_cases e1 : f.k = g.k
          · by_cases e2 : f.e = g.e
            · by_cases e3 : f.i = g.i
              · refine .inr (.inr (.inr ⟨e1, e2, e3, fun h => hfg (Fr.ext' e1 e2 e3 ?_)⟩))
                rw [toList_S, toList_S] at h; exact h
              · exact .inr (.inr (.inl ⟨e1, e2, e3⟩))
            · exact .inr (.inl ⟨e1, e2⟩)
          · exact .inl e1
      · exact .inr (.inl ⟨h1, by simpa using h2⟩)
    · exact .inl (by simpa using h1)
  obtain ⟨k, ep, i, d⟩ := f
  obtain ⟨k2, e2, i2, d2⟩ := g
  have HX0 := TS.start (k := k) (e := ep) (i := i) (D := S d) (t := 23) hT hT4
  have HY0 := HX0.again k2 e2 i2 (S d2) 23
  have HX := HX0.alloc (.cells #[.int .u8 k2, .int .i64 e2, .int .i64 i2, .string (S d2)] 23)
  simp only [World.size_alloc] at HY0
  have hC' : (encE ⟨k, ep, i, d⟩ == 0) = false ∨ (encE ⟨k, ep, i, d⟩ = 0 ∧ (encE ⟨k2, e2, i2, d2⟩ == 0) = false) ∨ (encE ⟨k, ep, i, d⟩ = 0 ∧ encE ⟨k2, e2, i2, d2⟩ = 0 ∧ (k = k2 ∧ ep = e2 ∧ i = i2 ∧ S d = S d2 ∧ S (encL ⟨k, ep, i, d⟩) = S (encL ⟨k2, e2, i2, d2⟩))) ∨ (encE ⟨k, ep, i, d⟩ = 0 ∧ encE ⟨k2, e2, i2, d2⟩ = 0 ∧ ((S (encL ⟨k, ep, i, d⟩)).toList == (S (encL ⟨k2, e2, i2, d2⟩)).toList) = false ∧ (¬ k = k2 ∨ (k = k2 ∧ ¬ ep = e2) ∨ (k = k2 ∧ ep = e2 ∧ ¬ i = i2) ∨ (k = k2 ∧ ep = e2 ∧ i = i2 ∧ ¬ (S d).toList = (S d2).toList))) := by
    rcases hC with h | h | ⟨h1, h2, h3⟩ | h
    · exact .inl h
    · exact .inr (.inl h)
    · refine .inr (.inr (.inl ⟨h1, h2, ?_⟩))
      obtain ⟨rfl, rfl, rfl, rfl⟩ := Fr.mk.inj h3
      exact ⟨rfl, rfl, rfl, rfl, rfl⟩
    · exact .inr (.inr (.inr h))
  clear hC
  rw [show frV ⟨k, ep, i, d⟩ = .agg #[.int .u8 k, .int .i64 ep, .int .i64 i, .string (S d)] from rfl] at *
  rw [show frV ⟨k2, e2, i2, d2⟩ = .agg #[.int .u8 k2, .int .i64 e2, .int .i64 i2, .string (S d2)] from rfl] at *
  generalize encE ⟨k, ep, i, d⟩ = M at *
  generalize S (encL ⟨k, ep, i, d⟩) = X at *
  generalize encE ⟨k2, e2, i2, d2⟩ = N at *
  generalize S (encL ⟨k2, e2, i2, d2⟩) = Y at *
  generalize S d = D at *
  generalize S d2 = D2 at *
  have HC : Hid _ := hC'
  clear hC' hT hT4 HX0
  go_enter Tryd.func8, Tryd.ntmps8
  go_wp2_with fail
  refine (HE1.out _ HX.tab HX.tab4).mono ?_
  rintro e' w1 ⟨rfl, b1⟩
  have HX := HX.next b1
  have HY := HY0.next b1
  clear b1 HY0
  have c0 := HY.c0
  have c1 := HY.c1
  have c2 := HY.c2
  have c3 := HY.c3
  go_wp2_with fail
  refine (HE2.out _ HX.tab HX.tab4).mono ?_
  rintro e' w2 ⟨rfl, b2⟩
  have HX := HX.next b2
  have HY := HY.next b2
  clear b2 c0 c1 c2 c3
  have a0 := HX.c0
  have a1 := HX.c1
  have a2 := HX.c2
  have a3 := HX.c3
  have c0 := HY.c0
  have c1 := HY.c1
  have c2 := HY.c2
  have c3 := HY.c3
  have HF : Hid (∀ w3, Below w2.heap.size w2 w3 → Below w.heap.size w w3) := fun w3 b3 => (HX.next b3).below
  have T1 : Hid (Tab w2) := HX.tab
  have T2 : Hid (Tab4 w2) := HX.tab4
  clear HX HY
  rcases HC.out with hM | ⟨hM, hN⟩ | ⟨hM, hN, rfl, rfl, rfl, rfl, rfl⟩ | ⟨hM, hN, hXY, hk | ⟨rfl, he⟩ | ⟨rfl, rfl, hi⟩ | ⟨rfl, rfl, rfl, hD⟩⟩
  · have hM2 : ¬ M = 0 := by simpa using hM
    clear HC
    go_wp2_with fail
    refine (HDo.out _ T1.out T2.out).mono ?_
    rintro e' w3 ⟨rfl, b3⟩
    have HB := HF.out _ b3
    clear b3 a0 a1 a2 a3 c0 c1 c2 c3
    go_wp2
    go_ret
    exact ⟨rfl, HB⟩
  · subst hM
    have hN2 : ¬ N = 0 := by simpa using hN
    clear HC
    go_wp2_with fail
    refine (HDo.out _ T1.out T2.out).mono ?_
    rintro e' w3 ⟨rfl, b3⟩
    have HB := HF.out _ b3
    clear b3 a0 a1 a2 a3 c0 c1 c2 c3
    go_wp2
    go_ret
    exact ⟨rfl, HB⟩
  · subst hM hN
    clear HC
    go_wp2_with fail
    refine (HDo.out _ T1.out T2.out).mono ?_
    rintro e' w3 ⟨rfl, b3⟩
    have HB := HF.out _ b3
    clear b3 a0 a1 a2 a3 c0 c1 c2 c3
    go_wp2
    go_ret
    exact ⟨rfl, HB⟩
  · subst hM hN
    clear HC
    go_wp2_with fail
    refine (HDo.out _ T1.out T2.out).mono ?_
    rintro e' w3 ⟨rfl, b3⟩
    have HB := HF.out _ b3
    clear b3 a0 a1 a2 a3 c0 c1 c2 c3
    go_wp2
    go_ret
    exact ⟨rfl, HB⟩
  · subst hM hN
    clear HC
    go_wp2_with fail
    refine (HDo.out _ T1.out T2.out).mono ?_
    rintro e' w3 ⟨rfl, b3⟩
    have HB := HF.out _ b3
    clear b3 a0 a1 a2 a3 c0 c1 c2 c3
    go_wp2
    go_ret
    exact ⟨rfl, HB⟩
  · subst hM hN
    clear HC
    go_wp2_with fail
    refine (HDo.out _ T1.out T2.out).mono ?_
    rintro e' w3 ⟨rfl, b3⟩
    have HB := HF.out _ b3
    clear b3 a0 a1 a2 a3 c0 c1 c2 c3
    go_wp2
    go_ret
    exact ⟨rfl, HB⟩
  · subst hM hN
    clear HC
    go_wp2_with fail
    refine (HDo.out _ T1.out T2.out).mono ?_
    rintro e' w3 ⟨rfl, b3⟩
    have HB := HF.out _ b3
    clear b3 a0 a1 a2 a3 c0 c1 c2 c3
    go_wp2
    go_ret
    exact ⟨rfl, HB⟩
end Go.Proofs.YtcbmcbcpclgciaaDoor
