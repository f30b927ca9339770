/- The law FramesLack: a frame's block of which parts are of zero bytes is torn, and none of a frame. -/
import Derived.Test.YtcbmcbcpclgciaaDoorFk
namespace Go.Proofs.YtcbmcbcpclgciaaDoor
open Go.RowKit

/-- The first k parts of a block, those of zero bytes whose bit is 0. -/
def lackN (X : List UInt8) (n : Int) : Nat → List UInt8
  | 0 => []
  | k + 1 => lackN X n k ++ (if n / 2 ^ k % 2 = 1 then cut X (32 * k) 32 else List.replicate 32 0)
theorem lackN_length (X : List UInt8) (n : Int) (hX : X.length = 128) : ∀ k, k ≤ 4 → (lackN X n k).length = 32 * k
  | 0, _ => rfl
  | k + 1, h => by
    rw [lackN, List.length_append, lackN_length X n hX k (by omega)]
    by_cases hb : n / 2 ^ k % 2 = 1
    · rw [if_pos hb, cut_length X (32 * k) 32 (by omega)]; omega
    · rw [if_neg hb, List.length_replicate]; omega
theorem lackN_get (X : List UInt8) (n : Int) (hX : X.length = 128) (j : Nat) (hj : j < 4) : (lackN X n 4)[32 * j + 31]? = if n / 2 ^ j % 2 = 1 then X[32 * j + 31]? else some 0 := by
  have l0 := lackN_length X n hX 0 (by omega)
  have l1 := lackN_length X n hX 1 (by omega)
  have l2 := lackN_length X n hX 2 (by omega)
  have l3 := lackN_length X n hX 3 (by omega)
  have go : ∀ k, k < 4 → (lackN X n (k + 1))[32 * k + 31]? = if n / 2 ^ k % 2 = 1 then X[32 * k + 31]? else some 0 := fun k hk => by
    rw [lackN, List.getElem?_append_right (by rw [lackN_length X n hX k (by omega)]; omega), lackN_length X n hX k (by omega)]
    by_cases hb : n / 2 ^ k % 2 = 1
    · rw [if_pos hb, if_pos hb, cut_get, if_pos (by omega)]; congr 1; omega
    · rw [if_neg hb, if_neg hb, List.getElem?_replicate, if_pos (by omega)]
  have up : ∀ k i, k < 4 → i < 32 * k → (lackN X n (k + 1))[i]? = (lackN X n k)[i]? := fun k i hk hi => by
    rw [lackN, List.getElem?_append_left (by rw [lackN_length X n hX k (by omega)]; omega)]
  have : j = 0 ∨ j = 1 ∨ j = 2 ∨ j = 3 := by omega
  rcases this with rfl | rfl | rfl | rfl
  · rw [up 3 _ (by omega) (by omega), up 2 _ (by omega) (by omega), up 1 _ (by omega) (by omega)]; exact go 0 (by omega)
  · rw [up 3 _ (by omega) (by omega), up 2 _ (by omega) (by omega)]; exact go 1 (by omega)
  · rw [up 3 _ (by omega) (by omega)]; exact go 2 (by omega)
  · exact go 3 (by omega)
theorem lackN_whole (X : List UInt8) (n : Int) (hX : X.length = 128) (h : n % 16 = 15) : lackN X n 4 = X := by
  have b0 : n / 2 ^ 0 % 2 = 1 := by simp; omega
  have b1 : n / 2 ^ 1 % 2 = 1 := by simp; omega
  have b2 : n / 2 ^ 2 % 2 = 1 := by simp; omega
  have b3 : n / 2 ^ 3 % 2 = 1 := by simp; omega
  simp only [lackN, if_pos b0, if_pos b1, if_pos b2, if_pos b3]
  rw [List.nil_append, show 32 * 0 = 0 by rfl, show 32 * 1 = 0 + 32 by rfl, cut_add, show 32 * 2 = 0 + (32 + 32) by rfl, cut_add, show 32 * 3 = 0 + (32 + 32 + 32) by rfl, cut_add]
  exact cut_all X _ hX
theorem lackN_torn (X : List UInt8) (n : Int) (hX : X.length = 128) (h : ¬ n % 16 = 15) : lackB (lackN X n 4) = true := by
  have hex : ∃ j, j < 4 ∧ ¬ n / 2 ^ j % 2 = 1 := by
    by_cases b0 : n / 2 ^ 0 % 2 = 1
    · by_cases b1 : n / 2 ^ 1 % 2 = 1
      · by_cases b2 : n / 2 ^ 2 % 2 = 1
        · refine ⟨3, by omega, fun b3 => h ?_⟩
          simp at b0 b1 b2 b3
          omega
        · exact ⟨2, by omega, b2⟩
      · exact ⟨1, by omega, b1⟩
    · exact ⟨0, by omega, b0⟩
  obtain ⟨j, hj, hb⟩ := hex
  refine torn_of (lackN_length X n hX 4 (by omega)) hj ?_
  unfold markB
  rw [lackN_get X n hX j hj, if_neg hb]; rfl
set_option maxRecDepth 100000 in
set_option maxHeartbeats 4000000 in
theorem lackL_any (f : Fr) (n : Int) (w : World) (hT : Tab w) (hT4 : Tab4 w) (hn : 0 ≤ n ∧ n ≤ 255) :
    Calls Tryd.prog 6 #[frV f, .int .u8 n] w fun e w' => e = .returned (.bool true) ∧ Below w.heap.size w w' := by
  have HDo : Hid (∀ w : World, Tab w → Tab4 w → Calls Tryd.prog 11 #[] w fun e w' => e = .returned (.bool true) ∧ Below w.heap.size w w') := fun w h h4 => fdoes_any w h h4
  have HE1 : Hid (∀ w : World, Tab w → Tab4 w → Calls Tryd.prog 9 #[frV f] w fun e w' => e = .returned (.tuple #[.string (S (encL f)), .int .i64 (encE f)]) ∧ Below w.heap.size w w') := fun w h h4 => encode_any f w h h4
  have hC : ((encE f == 0) = false ∧ ¬ encE f = 0) ∨ (encE f = 0 ∧ (encL f).length = 128 ∧ ((n % 16 = 15 ∧ Hid (∀ w : World, Tab w → Tab4 w → Calls Tryd.prog 12 #[.string (S (lackN (encL f) n 4))] w fun e w' => e = .returned (.tuple #[frV f, .int .i64 0]) ∧ Below w.heap.size w w') ∧ Hid (∀ w : World, Calls Tryd.prog 14 #[.string (S (lackN (encL f) n 4))] w fun e w' => e = .returned (.bool false) ∧ Below w.heap.size w w')) ∨ ((n % 16 == 15) = false ∧ Hid (∀ w : World, Tab w → Tab4 w → Calls Tryd.prog 12 #[.string (S (lackN (encL f) n 4))] w fun e w' => e = .returned (.tuple #[.agg #[.int .u8 0, .int .i64 0, .int .i64 0, .string ⟨#[]⟩], .int .i64 10]) ∧ Below w.heap.size w w') ∧ Hid (∀ w : World, Calls Tryd.prog 14 #[.string (S (lackN (encL f) n 4))] w fun e w' => e = .returned (.bool true) ∧ Below w.heap.size w w')))) := by
    by_cases h1 : encE f = 0
    · have hl := encL_length h1
      refine .inr ⟨h1, hl, ?_⟩
      by_cases h15 : n % 16 = 15
      · rw [lackN_whole _ n hl h15]
        refine .inl ⟨h15, fun w h h4 => ?_, fun w => ?_⟩
        · have := decode_any (encL f) w h h4
          rw [(dec_enc h1).2, decE_ok.2 (dec_enc h1).1] at this
          exact this
        · have := lack_any (encL f) w
          rwa [enc_whole h1] at this
      · have ht := lackN_torn _ n hl h15
        refine .inr ⟨by simpa using h15, fun w h h4 => ?_, fun w => ?_⟩
        · have := decode_any (lackN (encL f) n 4) w h h4
          rw [(dec_no (torn_none ht)).1, (dec_no (torn_none ht)).2] at this
          exact this
        · have := lack_any (lackN (encL f) n 4) w
          rwa [ht] at this
    · exact .inl ⟨by simpa using h1, h1⟩
  obtain ⟨k, ep, i, d⟩ := f
  have HX := TS.start (k := k) (e := ep) (i := i) (D := S d) (t := 23) hT hT4
  rw [show frV ⟨k, ep, i, d⟩ = .agg #[.int .u8 k, .int .i64 ep, .int .i64 i, .string (S d)] from rfl] at *
  generalize encE ⟨k, ep, i, d⟩ = M at *
  generalize encL ⟨k, ep, i, d⟩ = X at *
  generalize S d = D at *
  have HC : Hid _ := hC
  clear hC hT hT4
  go_enter Tryd.func6, Tryd.ntmps6
  go_wp2_with fail
  refine (HE1.out _ HX.tab HX.tab4).mono ?_
  rintro e' w1 ⟨rfl, b1⟩
  have HX := HX.next b1
  clear b1
  rcases HC.out with ⟨hM, hM2⟩ | ⟨hM, hl, hCC⟩
  · clear HC
    go_wp2_with fail
    refine (HDo.out _ HX.tab HX.tab4).mono ?_
    rintro e' w3 ⟨rfl, b3⟩
    have HB := (HX.next b3).below
    clear b3 HX
    go_wp2
    go_ret
    exact ⟨rfl, HB⟩
  · subst hM
    have HCC : Hid _ := hCC
    have hsz : (S X).size = 128 := by rw [S_size, hl]
    have hXl : Hid (X.length = 128) := hl
    have Hx : Hid (∀ j, (S X).extract (32 * j) (32 * j + 32) = S (cut X (32 * j) 32)) := fun j => by rw [S_ext]; congr 2; omega
    have hmk : ∀ W : World, (Instr.makeSlice 33 (.int .i64 32) (.int .i64 32)).run Tryd.prog W = .ok (.slice (some ⟨W.heap.size, 0, none⟩) 32 32) (W.alloc (.cells (hv (List.replicate 32 0)) 5)) := fun W => mkZ 32 (by omega) W
    have hcv : ∀ W : World, (convert 33 9 (.slice (some ⟨W.heap.size, 0, none⟩) 32 32)).run Tryd.prog (W.alloc (.cells (hv (List.replicate 32 0)) 5)) = .ok (.string (S (List.replicate 32 0))) (W.alloc (.cells (hv (List.replicate 32 0)) 5)) := fun W => cvZ 32 _ _ (heap_alloc_last _ _)
    have zl : (S (List.replicate 32 0)).size = 32 := by rw [S_size, List.length_replicate]
    have HZ : Hid (S (List.replicate 32 0) = S (List.replicate 32 0)) := rfl
    clear HC hCC hl
    obtain ⟨Z, hZ⟩ : ∃ Z, S (List.replicate 32 0) = Z := ⟨_, rfl⟩
    obtain ⟨C1, hC1⟩ : ∃ C1, hv (List.replicate 32 0) = C1 := ⟨_, rfl⟩
    rw [hZ] at hcv zl
    rw [hC1] at hcv hmk
    have HZ2 : Hid (S (List.replicate 32 0) = Z) := hZ
    clear hZ hC1 HZ
    go_wp2_with fail
    go_loopw [7, 8] (fun s j wr => ∃ m : Nat, m ≤ 4 ∧ j = .int .i64 m ∧ s = .string (S (lackN X n m)) ∧ TS w w.heap.size k ep i D wr) (fun _ j _ => 4 - (intOf j).toNat)
    case atStart => exact ⟨0, Nat.zero_le _, rfl, rfl, HX⟩
    case round =>
      obtain ⟨m, hm, rfl, rfl, HW⟩ := hrel
      clear HX
      by_cases hlt : m < 4
      · have hln : (S (lackN X n m)).size = 32 * m := by rw [S_size, lackN_length X n hXl.out m (by omega)]
        have hsm : (S (lackN X n m)).size ≤ 128 := by omega
        have hq0 : 0 ≤ n / 2 ^ m := Int.ediv_nonneg hn.1 (Int.le_of_lt (Int.pow_pos (by decide)))
        have HS : Hid (lackN X n (m + 1) = lackN X n m ++ (if n / 2 ^ m % 2 = 1 then cut X (32 * m) 32 else List.replicate 32 0)) := rfl
        by_cases hb : n / 2 ^ m % 2 = 1
        · have HS1 : Hid (S (lackN X n m) ++ S (cut X (32 * m) 32) = S (lackN X n (m + 1))) := by show _ = _; rw [S_append, HS.out, if_pos hb]
          have hx := Hx.out m
          have hcl : (S (cut X (32 * m) 32)).size = 32 := by rw [S_size, cut_length X (32 * m) 32 (by have := hXl.out; omega)]
          have hbt : ((n / 2 ^ m).tmod 2 == 1) = true := by rw [Int.tmod_eq_emod_of_nonneg hq0]; simpa using hb
          clear HS hb hq0
          generalize S (lackN X n m) = Q at *
          generalize S (cut X (32 * m) 32) = P at *
          go_wp2
          go_roundw
          case rel => exact ⟨m + 1, by omega, by go_num, by rw [HS1.out], HW⟩
          case measure => simp [intOf]; omega
        · have HS1 : Hid (S (lackN X n m) ++ Z = S (lackN X n (m + 1))) := by show _ = _; rw [← HZ2.out, S_append, HS.out, if_neg hb]
          have hbt : ((n / 2 ^ m).tmod 2 == 1) = false := by rw [Int.tmod_eq_emod_of_nonneg hq0]; simpa using hb
          have HW2 : Hid _ := HW.alloc (.cells C1 5)
          clear HS hb hq0
          generalize S (lackN X n m) = Q at *
          go_wp2
          go_roundw
          case rel => exact ⟨m + 1, by omega, by go_num, by rw [HS1.out], HW2.out⟩
          case measure => simp [intOf]; omega
      · obtain rfl : m = 4 := by omega
        clear hmk hcv zl Hx
        generalize S (lackN X n 4) = Q at *
        rcases HCC.out with ⟨h15, HD, HT⟩ | ⟨h15, HD, HT⟩
        · skip
          go_wp2_with fail
          refine (HD.out _ HW.tab HW.tab4).mono ?_
          rintro e' w2 ⟨rfl, b2⟩
          have HX := HW.next b2
          have HY := HX.again k ep i D 23
          have HX := HX.alloc (.cells #[.int .u8 k, .int .i64 ep, .int .i64 i, .string D] 23)
          clear b2 HW
          go_upto_region 13 with fail
          generalize w2.heap.size = B2 at *
          generalize w2.alloc _ = W2 at *
          go_wp2_with fail
          refine (HT.out _).mono ?_
          rintro e' w3 ⟨rfl, b3⟩
          have HX := HX.next b3
          have HY := HY.next b3
          clear b3
          have a0 := HX.c0
          have a1 := HX.c1
          have a2 := HX.c2
          have a3 := HX.c3
          have c0 := HY.c0
          have c1 := HY.c1
          have c2 := HY.c2
          have c3 := HY.c3
          go_wp2_with fail
          refine (HDo.out _ HX.tab HX.tab4).mono ?_
          rintro e' w4 ⟨rfl, b4⟩
          have HB := (HX.next b4).below
          clear b4 HX HY a0 a1 a2 a3 c0 c1 c2 c3
          go_wp2
          go_ret
          exact ⟨rfl, HB⟩
        · have h15n : ¬ n % 16 = 15 := by simpa using h15
          go_wp2_with fail
          refine (HD.out _ HW.tab HW.tab4).mono ?_
          rintro e' w2 ⟨rfl, b2⟩
          have HX := HW.next b2
          have HY := HX.again 0 0 0 ⟨#[]⟩ 23
          have HX := HX.alloc (.cells #[.int .u8 0, .int .i64 0, .int .i64 0, .string ⟨#[]⟩] 23)
          clear b2 HW
          go_upto_region 13 with fail
          generalize w2.heap.size = B2 at *
          generalize w2.alloc _ = W2 at *
          go_wp2_with fail
          refine (HT.out _).mono ?_
          rintro e' w3 ⟨rfl, b3⟩
          have HX := HX.next b3
          have HY := HY.next b3
          clear b3
          have a0 := HX.c0
          have a1 := HX.c1
          have a2 := HX.c2
          have a3 := HX.c3
          have c0 := HY.c0
          have c1 := HY.c1
          have c2 := HY.c2
          have c3 := HY.c3
          go_wp2_with fail
          refine (HDo.out _ HX.tab HX.tab4).mono ?_
          rintro e' w4 ⟨rfl, b4⟩
          have HB := (HX.next b4).below
          clear b4 HX HY a0 a1 a2 a3 c0 c1 c2 c3
          go_wp2
          go_ret
          exact ⟨rfl, HB⟩
end Go.Proofs.YtcbmcbcpclgciaaDoor
