/- Contract of frames.Decode. -/
import Derived.Test.YtalofhnjlmgloaaDoorFh
namespace Go.Proofs.YtalofhnjlmgloaaDoor
open Go.RowKit

theorem fr_one (k e i : Int) (D : ByteArray) : (#[Value.int .u8 k, .int .i64 e, .int .i64 i, .string D] : Array Value).all (·.oneCell') = true := by simp [Value.oneCell']
theorem fr_size (k e i : Int) (D : ByteArray) : (Tryd.prog.info? 39).map (·.size) = some (#[Value.int .u8 k, .int .i64 e, .int .i64 i, .string D] : Array Value).size := info_fr
theorem fr_same (k e i k' e' i' : Int) (D D' : ByteArray) : (#[Value.int .u8 k, .int .i64 e, .int .i64 i, .string D] : Array Value).size = (#[Value.int .u8 k', .int .i64 e', .int .i64 i', .string D'] : Array Value).size := rfl
theorem dec_no {b : List UInt8} (h : decB b = false) : frV (decF b) = .agg #[.int .u8 0, .int .i64 0, .int .i64 0, .string ⟨#[]⟩] ∧ decE b = 10 := by
  unfold decF decE; rw [h]; exact ⟨rfl, rfl⟩
theorem S_ne {a b : List UInt8} (h : a ≠ b) : ((S a).toList == (S b).toList) = false := by
  rw [toList_S, toList_S, beq_eq_false_iff_ne]; exact h
theorem decode_short (b : List UInt8) (w : World) (hl : b.length ≠ 128) :
    Calls Tryd.prog 19 #[.string (S b)] w fun e w' => e = .returned (.tuple #[frV (decF b), .int .i64 (decE b)]) ∧ Below w.heap.size w w' := by
  have hd : decB b = false := by simp [decB, hl]
  rw [(dec_no hd).1, (dec_no hd).2]
  have hz : (((S b).size : Int) == 128) = false := by rw [S_size]; simp; omega
  clear hd hl
  generalize S b = A at *
  go_enter Tryd.func19, Tryd.ntmps19
  go_wp2
  exact bodyPost_ret (v := .tuple #[.agg #[.int .u8 0, .int .i64 0, .int .i64 0, .string ⟨#[]⟩], .int .i64 10]) (results_celt Tryd.results19 _ _ w.heap.size _ _ (0, 0) _ rfl (heap_alloc_last w _) Tryd.underlying39 rfl info_fr) rfl ⟨rfl, (Below.refl _ _).alloc (Nat.le_refl _) _⟩
set_option maxRecDepth 100000 in
set_option maxHeartbeats 1000000 in
theorem decode_far (b : List UInt8) (w : World) (hT : Tab w) (hl : b.length = 128) (hn : ¬ ((unmL b)[7]?.getD 0).toNat ≤ 112) :
    Calls Tryd.prog 19 #[.string (S b)] w fun e w' => e = .returned (.tuple #[frV (decF b), .int .i64 (decE b)]) ∧ Below w.heap.size w w' := by
  have hd : decB b = false := by simp [decB, hn]
  rw [(dec_no hd).1, (dec_no hd).2]
  have hz : (S b).size = 128 := by rw [S_size, hl]
  have hU : Hid (∀ w : World, Calls Tryd.prog 29 #[.string (S b)] w fun e w' => e = .returned (.string (S (unmL b))) ∧ Below w.heap.size w w') := fun w => unmarked_any b hl w
  have hO : Hid (∀ w : World, Tab w → Calls Tryd.prog 28 #[.string (S (unmL b))] w fun e w' => e = .returned (.tuple #[.agg #[.int .u8 0, .int .i64 0, .int .i64 0, .string ⟨#[]⟩], .bool false]) ∧ Below w.heap.size w w') := fun w h => by
    have := told_any (unmL b) (unmL_length hl) w h
    rw [if_neg hn, decide_eq_false hn] at this
    exact this
  have hb0 : Below w.heap.size w (w.alloc (.cells #[.int .u8 0, .int .i64 0, .int .i64 0, .string ⟨#[]⟩] 39)) := (Below.refl _ _).alloc (Nat.le_refl _) _
  have HB0 : Hid _ := hb0
  have HT : Hid (Tab (w.alloc (.cells #[.int .u8 0, .int .i64 0, .int .i64 0, .string ⟨#[]⟩] 39))) := hT.below hb0
  have HG : Hid ((w.alloc (.cells #[.int .u8 0, .int .i64 0, .int .i64 0, .string ⟨#[]⟩] 39)).heap[w.heap.size]? = some (.cells #[.int .u8 0, .int .i64 0, .int .i64 0, .string ⟨#[]⟩] 39 (0, 0))) := heap_alloc_last w _
  clear hd hn hl hb0 hT
  generalize S (unmL b) = X at *
  generalize S b = A at *
  go_enter Tryd.func19, Tryd.ntmps19
  go_wp2_with fail
  refine (hU.out _).mono ?_
  rintro e w1 ⟨rfl, b1⟩
  go_wp2_with fail
  refine (hO.out _ (HT.out.below b1)).mono ?_
  rintro e w2 ⟨rfl, b2⟩
  have b3 := b1.trans (b2.mono b1.size)
  clear b1 b2
  have HB : Hid (Below w.heap.size w w2) := HB0.out.trans (b3.mono HB0.out.size)
  have G2 : w2.heap[w.heap.size]? = some (.cells #[.int .u8 0, .int .i64 0, .int .i64 0, .string ⟨#[]⟩] 39 (0, 0)) := (b3.block _ (by simp)).trans HG.out
  have hlt : w.heap.size < w2.heap.size := by have := b3.size; simp at this; omega
  have HBn : Hid (Below w.heap.size w (w2.alloc (.cells #[.int .u8 0, .int .i64 0, .int .i64 0, .string ⟨#[]⟩] 39))) := HB.out.alloc (by omega) _
  have G3 : Hid ((w2.alloc (.cells #[.int .u8 0, .int .i64 0, .int .i64 0, .string ⟨#[]⟩] 39)).heap[w.heap.size]? = some (.cells #[.int .u8 0, .int .i64 0, .int .i64 0, .string ⟨#[]⟩] 39 (0, 0))) := (Below.heap_alloc _ _ _ hlt).trans G2
  have i1 := info_fr
  clear b3 HT HG HB0 hlt G2
  go_wp2_with (refine wpList_store_row rfl 39 (.tmp 2) _ rfl w.heap.size #[.int .u8 0, .int .i64 0, .int .i64 0, .string ⟨#[]⟩] rfl rfl _ _ G3.out (fr_size _ _ _ _) (fr_same _ _ _ _ _ _ _ _) (fr_one _ _ _ _) ?_)
  exact bodyPost_ret (v := .tuple #[.agg #[.int .u8 0, .int .i64 0, .int .i64 0, .string ⟨#[]⟩], .int .i64 10]) (results_celt Tryd.results19 _ _ w.heap.size _ #[.int .u8 0, .int .i64 0, .int .i64 0, .string ⟨#[]⟩] (0, 0) _ rfl (heap_setRow_same G3.out) Tryd.underlying39 rfl info_fr) rfl ⟨rfl, below_setRow HBn.out (Nat.le_refl _) _⟩
set_option maxRecDepth 100000 in
set_option maxHeartbeats 2000000 in
theorem decode_near (b : List UInt8) (w : World) (hT : Tab w) (hT4 : Tab4 w) (hl : b.length = 128) (hn : ((unmL b)[7]?.getD 0).toNat ≤ 112) :
    Calls Tryd.prog 19 #[.string (S b)] w fun e w' => e = .returned (.tuple #[frV (decF b), .int .i64 (decE b)]) ∧ Below w.heap.size w w' := by
  have hz : (S b).size = 128 := by rw [S_size, hl]
  have hU : Hid (∀ w : World, Calls Tryd.prog 29 #[.string (S b)] w fun e w' => e = .returned (.string (S (unmL b))) ∧ Below w.heap.size w w') := fun w => unmarked_any b hl w
  have hO : Hid (∀ w : World, Tab w → Calls Tryd.prog 28 #[.string (S (unmL b))] w fun e w' => e = .returned (.tuple #[frV (tellF (unmL b)), .bool true]) ∧ Below w.heap.size w w') := fun w h => by
    have := told_any (unmL b) (unmL_length hl) w h
    rw [if_pos hn, decide_eq_true hn] at this
    exact this
  have hE : Hid (∀ w : World, Tab w → Tab4 w → Calls Tryd.prog 30 #[frV (tellF (unmL b))] w fun e w' => e = .returned (.tuple #[.string (S (encL (tellF (unmL b)))), .int .i64 (encE (tellF (unmL b)))]) ∧ Below w.heap.size w w') := fun w h h4 => encode_any _ w h h4
  have hb0 : Below w.heap.size w (w.alloc (.cells #[.int .u8 0, .int .i64 0, .int .i64 0, .string ⟨#[]⟩] 39)) := (Below.refl _ _).alloc (Nat.le_refl _) _
  have HB0 : Hid _ := hb0
  have HT : Hid (Tab (w.alloc (.cells #[.int .u8 0, .int .i64 0, .int .i64 0, .string ⟨#[]⟩] 39))) := hT.below hb0
  have HT4 : Hid (Tab4 (w.alloc (.cells #[.int .u8 0, .int .i64 0, .int .i64 0, .string ⟨#[]⟩] 39))) := hT4.below hb0 hT4.lt
  have HG : Hid ((w.alloc (.cells #[.int .u8 0, .int .i64 0, .int .i64 0, .string ⟨#[]⟩] 39)).heap[w.heap.size]? = some (.cells #[.int .u8 0, .int .i64 0, .int .i64 0, .string ⟨#[]⟩] 39 (0, 0))) := heap_alloc_last w _
  -- what comes out, by cases
  have hcase : (encE (tellF (unmL b)) = 0 ∧ S (encL (tellF (unmL b))) = S b ∧ frV (decF b) = frV (tellF (unmL b)) ∧ decE b = 0) ∨ ((frV (decF b) = .agg #[.int .u8 0, .int .i64 0, .int .i64 0, .string ⟨#[]⟩] ∧ decE b = 10) ∧ ((encE (tellF (unmL b)) == 0) = false ∨ (encE (tellF (unmL b)) = 0 ∧ ((S (encL (tellF (unmL b)))).toList == (S b).toList) = false))) := by
    cases hd : decB b with
    | true =>
      refine .inl ?_
      have hd' := hd
      unfold decB at hd'
      simp only [Bool.and_eq_true, decide_eq_true_eq] at hd'
      refine ⟨hd'.2.2.1, by rw [hd'.2.2.2], ?_, ?_⟩
      · unfold decF; rw [hd]; rfl
      · unfold decE; rw [hd]; rfl
    | false =>
      refine .inr ⟨dec_no hd, ?_⟩
      by_cases h0 : encE (tellF (unmL b)) = 0
      · refine .inr ⟨h0, S_ne fun h => ?_⟩
        have : decB b = true := by
          unfold decB
          simp [hl, hn, h0, h]
        rw [hd] at this; cases this
      · exact .inl (by simpa using h0)
  generalize frV (decF b) = V at *
  generalize decE b = N at *
  generalize encE (tellF (unmL b)) = M at *
  generalize S (encL (tellF (unmL b))) = Y at *
  clear hn hl hb0 hT hT4
  generalize S (unmL b) = X at *
  generalize tellF (unmL b) = F at *
  generalize S b = A at *
  clear b
  obtain ⟨K, E, I, d⟩ := F
  replace hO : Hid (∀ w : World, Tab w → Calls Tryd.prog 28 #[.string X] w fun e w' => e = .returned (.tuple #[.agg #[.int .u8 K, .int .i64 E, .int .i64 I, .string (S d)], .bool true]) ∧ Below w.heap.size w w') := hO
  replace hE : Hid (∀ w : World, Tab w → Tab4 w → Calls Tryd.prog 30 #[.agg #[.int .u8 K, .int .i64 E, .int .i64 I, .string (S d)]] w fun e w' => e = .returned (.tuple #[.string Y, .int .i64 M]) ∧ Below w.heap.size w w') := hE
  replace hcase : (M = 0 ∧ Y = A ∧ V = .agg #[.int .u8 K, .int .i64 E, .int .i64 I, .string (S d)] ∧ N = 0) ∨ ((V = .agg #[.int .u8 0, .int .i64 0, .int .i64 0, .string ⟨#[]⟩] ∧ N = 10) ∧ ((M == 0) = false ∨ (M = 0 ∧ (Y.toList == A.toList) = false))) := hcase
  generalize S d = D at *
  have HC : Hid _ := hcase
  clear hcase
  go_enter Tryd.func19, Tryd.ntmps19
  go_wp2_with fail
  refine (hU.out _).mono ?_
  rintro e w1 ⟨rfl, b1⟩
  go_wp2_with fail
  refine (hO.out _ (HT.out.below b1)).mono ?_
  rintro e w2 ⟨rfl, b2⟩
  have b3 := b1.trans (b2.mono b1.size)
  clear b1 b2
  have HB : Hid (Below w.heap.size w w2) := HB0.out.trans (b3.mono HB0.out.size)
  have G2 : w2.heap[w.heap.size]? = some (.cells #[.int .u8 0, .int .i64 0, .int .i64 0, .string ⟨#[]⟩] 39 (0, 0)) := (b3.block _ (by simp)).trans HG.out
  have hlt : w.heap.size < w2.heap.size := by have := b3.size; simp at this; omega
  have ba : Below w2.heap.size w2 (w2.alloc (.cells #[.int .u8 K, .int .i64 E, .int .i64 I, .string D] 39)) := (Below.refl _ _).alloc (Nat.le_refl _) _
  have HBn : Hid (Below w.heap.size w (w2.alloc (.cells #[.int .u8 K, .int .i64 E, .int .i64 I, .string D] 39))) := HB.out.alloc (by omega) _
  have G3 : Hid ((w2.alloc (.cells #[.int .u8 K, .int .i64 E, .int .i64 I, .string D] 39)).heap[w.heap.size]? = some (.cells #[.int .u8 0, .int .i64 0, .int .i64 0, .string ⟨#[]⟩] 39 (0, 0))) := (Below.heap_alloc _ _ _ hlt).trans G2
  have G4 : Hid ((w2.alloc (.cells #[.int .u8 K, .int .i64 E, .int .i64 I, .string D] 39)).heap[w2.heap.size]? = some (.cells #[.int .u8 K, .int .i64 E, .int .i64 I, .string D] 39 (0, 0))) := heap_alloc_last w2 _
  have T3 : Hid (Tab (w2.alloc (.cells #[.int .u8 K, .int .i64 E, .int .i64 I, .string D] 39))) := (HT.out.below b3).below ba
  have T4 : Hid (Tab4 (w2.alloc (.cells #[.int .u8 K, .int .i64 E, .int .i64 I, .string D] 39))) := (HT4.out.below b3 HT4.out.lt).below ba (HT4.out.below b3 HT4.out.lt).lt
  have HL : Hid (w.heap.size < w2.heap.size) := hlt
  clear b3 HT HT4 HG HB0 hlt G2 ba HB
  go_wp2_with fail
  refine (hE.out _ T3.out T4.out).mono ?_
  rintro e w4 ⟨rfl, b4⟩
  have G5 : Hid (w4.heap[w.heap.size]? = some (.cells #[.int .u8 0, .int .i64 0, .int .i64 0, .string ⟨#[]⟩] 39 (0, 0))) := (b4.block _ (by have := HL.out; simp; omega)).trans G3.out
  have G6 : Hid (w4.heap[w2.heap.size]? = some (.cells #[.int .u8 K, .int .i64 E, .int .i64 I, .string D] 39 (0, 0))) := (b4.block _ (by simp)).trans G4.out
  have HB4 : Hid (Below w.heap.size w w4) := HBn.out.trans (b4.mono HBn.out.size)
  clear b4 HBn G3 G4 T3 T4
  generalize w2.heap.size = B2 at *
  rcases HC.out with ⟨hM, hY, hV, hN⟩ | ⟨⟨hV, hN⟩, hM | ⟨hM, hY⟩⟩
  · subst hM hY hN
    have HV : Hid (V = _) := hV
    clear hV HC
    go_wp2_with (first | (refine wpList_load_row rfl 39 (.tmp 4) rfl B2 rfl _ _ (0, 0) _ G6.out Tryd.underlying39 rfl (fr_size _ _ _ _) ?_) | (refine wpList_store_row rfl 39 (.tmp 2) _ rfl w.heap.size #[.int .u8 K, .int .i64 E, .int .i64 I, .string D] rfl rfl _ _ G5.out (fr_size _ _ _ _) (fr_same _ _ _ _ _ _ _ _) (fr_one _ _ _ _) ?_))
    refine bodyPost_ret (v := .tuple #[.agg #[.int .u8 K, .int .i64 E, .int .i64 I, .string D], .int .i64 0]) (results_celt Tryd.results19 _ _ w.heap.size _ #[.int .u8 K, .int .i64 E, .int .i64 I, .string D] (0, 0) _ rfl (heap_setRow_same G5.out) Tryd.underlying39 rfl info_fr) rfl ⟨by rw [HV.out], below_setRow HB4.out (Nat.le_refl _) _⟩
  · have hM2 : ¬ M = 0 := by simpa using hM
    subst hV hN
    clear HC
    go_wp2_with (refine wpList_store_row rfl 39 (.tmp 2) _ rfl w.heap.size #[.int .u8 0, .int .i64 0, .int .i64 0, .string ⟨#[]⟩] rfl rfl _ _ G5.out (fr_size _ _ _ _) (fr_same _ _ _ _ _ _ _ _) (fr_one _ _ _ _) ?_)
    exact bodyPost_ret (v := .tuple #[.agg #[.int .u8 0, .int .i64 0, .int .i64 0, .string ⟨#[]⟩], .int .i64 10]) (results_celt Tryd.results19 _ _ w.heap.size _ #[.int .u8 0, .int .i64 0, .int .i64 0, .string ⟨#[]⟩] (0, 0) _ rfl (heap_setRow_same G5.out) Tryd.underlying39 rfl info_fr) rfl ⟨rfl, below_setRow HB4.out (Nat.le_refl _) _⟩
  · subst hV hN hM
    clear HC
    go_wp2_with (refine wpList_store_row rfl 39 (.tmp 2) _ rfl w.heap.size #[.int .u8 0, .int .i64 0, .int .i64 0, .string ⟨#[]⟩] rfl rfl _ _ G5.out (fr_size _ _ _ _) (fr_same _ _ _ _ _ _ _ _) (fr_one _ _ _ _) ?_)
    exact bodyPost_ret (v := .tuple #[.agg #[.int .u8 0, .int .i64 0, .int .i64 0, .string ⟨#[]⟩], .int .i64 10]) (results_celt Tryd.results19 _ _ w.heap.size _ #[.int .u8 0, .int .i64 0, .int .i64 0, .string ⟨#[]⟩] (0, 0) _ rfl (heap_setRow_same G5.out) Tryd.underlying39 rfl info_fr) rfl ⟨rfl, below_setRow HB4.out (Nat.le_refl _) _⟩
/-- Decode, for every text. -/
theorem decode_any (b : List UInt8) (w : World) (hT : Tab w) (hT4 : Tab4 w) :
    Calls Tryd.prog 19 #[.string (S b)] w fun e w' => e = .returned (.tuple #[frV (decF b), .int .i64 (decE b)]) ∧ Below w.heap.size w w' := by
  by_cases hl : b.length = 128
  · by_cases hn : ((unmL b)[7]?.getD 0).toNat ≤ 112
    · exact decode_near b w hT hT4 hl hn
    · exact decode_far b w hT hl hn
  · exact decode_short b w hl
end Go.Proofs.YtalofhnjlmgloaaDoor
