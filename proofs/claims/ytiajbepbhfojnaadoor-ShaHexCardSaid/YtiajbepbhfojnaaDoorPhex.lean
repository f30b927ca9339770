/- The walk of the law ShaHex: digits are 64, of the base 16, in the order of the bytes. -/
import Derived.Test.YtiajbepbhfojnaaDoorPhexm
namespace Go.Proofs.YtiajbepbhfojnaaDoor
open Go.RowKit

/-- What is held: the two hashes lie where they lay. -/
structure HexS (w : World) (a b : List UInt8) (wr : World) : Prop where
  below : Below w.heap.size w wr
  k : TabK wr
  b0 : wr.heap[w.heap.size]? = some (.cells (hv a) 22 (0, 0))
  b1 : wr.heap[w.heap.size + 1]? = some (.cells (hv b) 22 (0, 0))
theorem HexS.next {w : World} {a b : List UInt8} {wr wx : World} (h : HexS w a b wr) (hb : Below wr.heap.size wr wx) : HexS w a b wx where
  below := h.below.trans (hb.mono h.below.size)
  k := h.k.below hb h.k.lt
  b0 := by rw [hb.block _ (Array.getElem?_eq_some_iff.1 h.b0).1]; exact h.b0
  b1 := by rw [hb.block _ (Array.getElem?_eq_some_iff.1 h.b1).1]; exact h.b1
theorem HexS.drew {w : World} {a b : List UInt8} {wr : World} (h : HexS w a b wr) : HexS w a b wr.drew := ⟨h.below.drew, h.k, h.b0, h.b1⟩
theorem HexS.drewN {w : World} {a b : List UInt8} {wr : World} (h : HexS w a b wr) (n : Nat) : HexS w a b (wr.drewN n) := ⟨below_drewN h.below n, h.k, h.b0, h.b1⟩
theorem HexS.all {w : World} {a b : List UInt8} {wr : World} (h : HexS w a b wr) : wr.rangeAt w.heap.size 0 (hv a).toList ∧ wr.rangeAt (w.heap.size + 1) 0 (hv b).toList ∧ HexS w a b wr := ⟨range_row h.b0, range_row h.b1, h⟩
set_option linter.unusedSimpArgs false in
set_option maxRecDepth 100000 in
set_option maxHeartbeats 1600000 in
theorem hex_walk (a b : List UInt8) (w : World) (hK : TabK w) (ha : a.length = 32) (hb : b.length = 32) :
    Calls Tryd.prog 7 #[.agg (hv a), .agg (hv b)] w fun e w' => e = .returned (.bool true) ∧ Below w.heap.size w w' := by
  have hst : HexS w a b ((w.alloc (.cells (hv a) 22)).alloc (.cells (hv b) 22)) := by
    have hbe : Below w.heap.size w ((w.alloc (.cells (hv a) 22)).alloc (.cells (hv b) 22)) := ((Below.refl _ _).alloc (Nat.le_refl _) _).alloc (by simp) _
    refine ⟨hbe, hK.below hbe hK.lt, ?_, ?_⟩
    · rw [Below.heap_alloc _ _ _ (by simp)]; exact heap_alloc_last _ _
    · have := heap_alloc_last (w.alloc (.cells (hv a) 22)) (.cells (hv b) 22)
      simpa using this
  have HST : Hid _ := hst
  clear hst
  have hu := Tryd.underlying22
  have HXA : Hid (∀ wx, HexS w a b wx → Calls Tryd.prog 11 #[.agg (hv a)] wx fun e w' => e = .returned (.string (S (hexL a))) ∧ HexS w a b w') := fun wx h => (hex_any a wx ha).mono fun e w' hh => ⟨hh.1, h.next hh.2⟩
  have HXB : Hid (∀ wx, HexS w a b wx → Calls Tryd.prog 11 #[.agg (hv b)] wx fun e w' => e = .returned (.string (S (hexL b))) ∧ HexS w a b w') := fun wx h => (hex_any b wx hb).mono fun e w' hh => ⟨hh.1, h.next hh.2⟩
  have HAll : Hid (∀ wr, HexS w a b wr → wr.rangeAt w.heap.size 0 (hv a).toList ∧ wr.rangeAt (w.heap.size + 1) 0 (hv b).toList ∧ HexS w a b wr) := fun wr h => h.all
  have la : (hv a).size = 32 := by rw [hv_size, ha]
  have lb : (hv b).size = 32 := by rw [hv_size, hb]
  have ia : (Tryd.prog.info? 22).map (·.size) = some (hv a).toList.length := by rw [info_h32, Array.length_toList, la]
  have ib : (Tryd.prog.info? 22).map (·.size) = some (hv b).toList.length := by rw [info_h32, Array.length_toList, lb]
  have na : (hv a).toList.length = 32 := by rw [Array.length_toList, la]
  have nb : (hv b).toList.length = 32 := by rw [Array.length_toList, lb]
  have HBs0 : Hid (∀ wr, HexS w a b wr → wr.heap[w.heap.size]? = some (.cells (hv a) 22 (0, 0))) := fun wr h => h.b0
  have HBs1 : Hid (∀ wr, HexS w a b wr → wr.heap[w.heap.size + 1]? = some (.cells (hv b) 22 (0, 0))) := fun wr h => h.b1
  have HCa : Hid (∀ wr k, (hk : k < 32) → HexS w a b wr → wr.cell? ⟨w.heap.size, k, none⟩ = some (.int .u8 ((a[k]'(by omega)).toNat : Int))) := fun wr k hk h => by rw [cell_of_row _ _ _ _ _ _ h.b0]; exact hv_at (by omega)
  have HCb : Hid (∀ wr k, (hk : k < 32) → HexS w a b wr → wr.cell? ⟨w.heap.size + 1, k, none⟩ = some (.int .u8 ((b[k]'(by omega)).toNat : Int))) := fun wr k hk h => by rw [cell_of_row _ _ _ _ _ _ h.b1]; exact hv_at (by omega)
  have heq : ∀ w : World, (binOp .eql 22 (.agg (hv a)) (.agg (hv b))).run Tryd.prog w = .ok (.bool (a == b)) w := fun w => eqH w a b ha hb
  have hsq : ((S (hexL a)).toList == (S (hexL b)).toList) = (a == b) := by
    rw [toList_S, toList_S, Bool.eq_iff_iff, beq_iff_eq, beq_iff_eq]
    exact ⟨fun h => hexL_inj a b (by omega) h, fun h => by rw [h]⟩
  have hless : Op.bytesLess (S (hexL a)).toList (S (hexL b)).toList = lessL a b := by rw [toList_S, toList_S]; exact bytesLess_hex a b (by omega)
  have p1 : (S (hexL a)).size = 64 := by rw [S_size, hexL_length]; omega
  have p2 : (S (hexL b)).size = 64 := by rw [S_size, hexL_length]; omega
  have hdig : Hid (∀ k (h : k < (S (hexL a)).size), isDig (S (hexL a))[k]) := fun k h => hexL_dig a _ (by
    have : (S (hexL a))[k] = (hexL a)[k]'(by rw [S_size] at h; exact h) := rfl
    rw [this]; exact List.getElem_mem _)
  have HLS : Hid (a = b → lessL a b = false) := fun h => by rw [h]; exact lessL_same b
  have HLK : Hid (∀ k (hk : k < 32), a.take k = b.take k → (a[k]'(by omega)) ≠ (b[k]'(by omega)) → lessL a b = decide ((a[k]'(by omega)) < (b[k]'(by omega)))) := fun k hk ht hne => lessL_at a b k (by omega) (by omega) ht hne
  generalize (a == b) = q at *
  generalize lessL a b = le at *
  generalize S (hexL a) = P at *
  generalize S (hexL b) = R at *
  generalize hv a = A at *
  generalize hv b = B at *
  go_enter Tryd.func7, Tryd.ntmps7
  go_wp2_with fail
  have HSD := HST.out.drew
  refine wp_region_held (S := fun w' => HexS w a b w') (by kernel_rfl) ?_
  change wpAnyH _ _ _ _ _ _ _ _ (World.drew _)
  generalize ((w.alloc (.cells A 22)).alloc (.cells B 22)).drew = W0 at *
  refine wpAnyH_take (i := 0) (v := .agg A) rfl (by kernel_rfl) (by kernel_rfl) (by kernel_rfl) (fun _ _ _ h => h) (yieldsIf_load_mid (by rfl) 22 _ rfl w.heap.size 0 rfl A.toList _ (fun w h => (HAll.out w h).1) hu rfl ia) HSD ?_
  simp only [List.getElem_toArray, List.getElem_cons_succ, List.getElem_cons_zero, Act.put, List.setIfInBounds_toArray, List.set_cons_zero, List.set_cons_succ]
  refine wpAnyH_take (i := 2) (v := .agg B) rfl (by kernel_rfl) (by kernel_rfl) (by kernel_rfl) (fun _ _ _ h => h) (yieldsIf_load_mid (by rfl) 22 _ rfl (w.heap.size + 1) 0 rfl B.toList _ (fun w h => (HAll.out w h).2.1) hu rfl ib) HSD ?_
  simp only [List.getElem_toArray, List.getElem_cons_succ, List.getElem_cons_zero, Act.put, List.setIfInBounds_toArray, List.set_cons_zero, List.set_cons_succ]
  refine wpAnyH_ready (rs := [1]) (by kernel_rfl) (by simp) (AllReadyH.cons (by simp only [List.getElem?_toArray, List.getElem?_cons_succ, List.getElem?_cons_zero]; rfl) (fun K hK => ?_) AllReadyH.nil)
  refine step_plain rfl ?_
  go_simp
  refine (HXA.out _ HSD).mono ?_
  rintro e w' ⟨rfl, h'⟩
  refine hK.out _ _ h' (fun _ => ?_)
  clear hK K
  try simp only [List.getElem_toArray, List.getElem_cons_succ, List.getElem_cons_zero, Act.put, List.setIfInBounds_toArray, List.set_cons_zero, List.set_cons_succ]
  refine wpAnyH_ready (rs := [3]) (by kernel_rfl) (by simp) (AllReadyH.cons (by simp only [List.getElem?_toArray, List.getElem?_cons_succ, List.getElem?_cons_zero]; rfl) (fun K hK => ?_) AllReadyH.nil)
  refine step_plain rfl ?_
  go_simp
  refine (HXB.out _ h').mono ?_
  rintro e w' ⟨rfl, h'⟩
  refine hK.out _ _ h' (fun _ => ?_)
  clear hK K
  try simp only [List.getElem_toArray, List.getElem_cons_succ, List.getElem_cons_zero, Act.put, List.setIfInBounds_toArray, List.set_cons_zero, List.set_cons_succ]
  refine wpAnyH_take (i := 4) (v := .string P) rfl (by kernel_rfl) (by kernel_rfl) (by kernel_rfl) (fun _ _ _ h => h) (Or.inl ⟨by rfl, by intro w _; go_simp⟩) h' ?_
  simp only [List.getElem_toArray, List.getElem_cons_succ, List.getElem_cons_zero, Act.put, List.setIfInBounds_toArray, List.set_cons_zero, List.set_cons_succ]
  refine wpAnyH_take (i := 5) (v := .string R) rfl (by kernel_rfl) (by kernel_rfl) (by kernel_rfl) (fun _ _ _ h => h) (Or.inl ⟨by rfl, by intro w _; go_simp⟩) h' ?_
  simp only [List.getElem_toArray, List.getElem_cons_succ, List.getElem_cons_zero, Act.put, List.setIfInBounds_toArray, List.set_cons_zero, List.set_cons_succ]
  refine wpAnyH_done (by kernel_rfl) ?_ _
  clear HSD HST HXA HXB HAll
  have HB0 : Hid (w'.heap[w.heap.size]? = some (.cells A 22 (0, 0))) := HBs0.out _ h'
  have HB1 : Hid (w'.heap[w.heap.size + 1]? = some (.cells B 22 (0, 0))) := HBs1.out _ h'
  have HH : Hid _ := h'
  clear h'
  go_wp2_with (first | (refine load_row_g rfl 22 _ rfl w.heap.size 32 5 _ A (0, 0) rfl HB0.out hu info_h32 la ?_) | (refine load_row_g rfl 22 _ rfl (w.heap.size + 1) 32 5 _ B (0, 0) rfl HB1.out hu info_h32 lb ?_))
  clear heq hsq HB0 HB1 HBs0 HBs1
  have la' : Hid (a.length = 32) := ha
  have lb' : Hid (b.length = 32) := hb
  go_loop [7] (fun i => ∃ k : Nat, k ≤ 64 ∧ i = .int .i64 k) (fun i => 64 - (intOf i).toNat)
  case atStart => exact ⟨0, Nat.zero_le _, rfl⟩
  case round =>
    obtain ⟨k, hk, rfl⟩ := hrel
    by_cases hlt : k < 64
    · have hkp : k < P.size := by omega
      have hd := hdig.out k hkp
      unfold isDig at hd
      have k1 : (k : Int) < (P.size : Int) := by omega
      have k0 : (0 : Int) ≤ (k : Int) := by omega
      rcases hd with ⟨h1, h2⟩ | ⟨h1, h2⟩
      · have d1 : (48 : Int) ≤ (P[k].toNat : Int) := by omega
        have d2 : (P[k].toNat : Int) ≤ 57 := by omega
        clear h1 h2
        go_wp2
        go_round
        case rel => exact ⟨k + 1, by omega, by go_num⟩
        case measure => simp [intOf]; omega
      · have d1 : (48 : Int) ≤ (P[k].toNat : Int) := by omega
        have d2 : ¬ (P[k].toNat : Int) ≤ 57 := by omega
        have d3 : (97 : Int) ≤ (P[k].toNat : Int) := by omega
        have d4 : (P[k].toNat : Int) ≤ 102 := by omega
        clear h1 h2
        go_wp2
        go_round
        case rel => exact ⟨k + 1, by omega, by go_num⟩
        case measure => simp [intOf]; omega
    · obtain rfl : k = 64 := by omega
      clear hdig
      go_wp2
      go_loopw [8, 9] (fun v i wx => ∃ k : Nat, k ≤ 32 ∧ v = .bool false ∧ i = .int .i64 k ∧ a.take k = b.take k ∧ HexS w a b wx) (fun _ i _ => 32 - (intOf i).toNat)
      case atStart => exact ⟨0, Nat.zero_le _, rfl, rfl, rfl, HH.out⟩
      case round =>
        obtain ⟨j, hj, rfl, rfl, ht, hS⟩ := hrel
        by_cases hlt : j < 32
        · have c0 := HCa.out _ j hlt hS
          have c1 := HCb.out _ j hlt hS
          have hxl := la'.out
          have hyl := lb'.out
          obtain ⟨x, hx⟩ : ∃ x, x = a[j] := ⟨_, rfl⟩
          obtain ⟨y, hy⟩ : ∃ y, y = b[j] := ⟨_, rfl⟩
          have HC0 : Hid (∀ wx, HexS w a b wx → wx.cell? ⟨w.heap.size, j, none⟩ = some (.int .u8 (x.toNat : Int))) := fun wx h => by rw [hx]; exact HCa.out wx j hlt h
          have HC1 : Hid (∀ wx, HexS w a b wx → wx.cell? ⟨w.heap.size + 1, j, none⟩ = some (.int .u8 (y.toNat : Int))) := fun wx h => by rw [hy]; exact HCb.out wx j hlt h
          rw [← hx] at c0
          rw [← hy] at c1
          have HT1 : Hid (x = y → a.take (j + 1) = b.take (j + 1)) := fun e => by
            rw [List.take_succ_eq_append_getElem (by omega), List.take_succ_eq_append_getElem (by omega), ht, ← hx, ← hy, e]
          have HT2 : Hid (x ≠ y → le = decide (x < y)) := fun e => by rw [hx, hy]; exact HLK.out j hlt ht (by rw [← hx, ← hy]; exact e)
          have j1 : (j : Int) < 32 := by omega
          have j0 : (0 : Int) ≤ (j : Int) := by omega
          have HS : Hid _ := hS
          clear hS ht hx hy hxl hyl
          by_cases e : x = y
          · have t1 : ((x.toNat : Int) != (y.toNat : Int)) = false := by rw [e]; simp
            have HE := HT1.out e
            have HE' : Hid _ := HE
            clear HT1 HT2 e HE
            generalize (x.toNat : Int) = X at *
            generalize (y.toNat : Int) = Y at *
            go_wp2
            go_quiet (fail)
            go_wp2
            go_roundw
            case rel =>
              first
              | exact ⟨j + 1, by omega, rfl, by go_num, HE'.out, HS.out.drewN nq⟩
              | ((repeat apply Exists.intro); exact ⟨⟨j + 1, by omega, rfl, by go_num, HE'.out, HS.out.drewN nq⟩, rfl⟩)
            case measure => simp [intOf]; omega
          · have t1 : ((x.toNat : Int) != (y.toNat : Int)) = true := by
              rw [bne_iff_ne]; intro h; exact e (UInt8.toNat_inj.1 (by omega))
            have t2 : decide ((x.toNat : Int) < (y.toNat : Int)) = le := by
              rw [HT2.out e, decide_eq_decide, UInt8.lt_iff_toNat_lt]; omega
            clear HT1 HT2 e
            generalize (x.toNat : Int) = X at *
            generalize (y.toNat : Int) = Y at *
            go_wp2
            go_quiet (fail)
            go_wp2
            have HS2 := HS.out.drewN nq
            clear c0 c1 HS
            generalize wr.drewN nq = wq at *
            have c0' := HC0.out wq HS2
            have c1' := HC1.out wq HS2
            go_quiet (fail)
            have HS3 := HS2.drewN nq
            have K3 := HS3.k
            have HS4 : Hid _ := HS3
            clear HS3 c0' c1' HS2 HC0 HC1
            generalize wq.drewN nq = wz at *
            go_wp2_with fail
            refine (does_any _ K3).mono ?_
            rintro e w9 ⟨rfl, b9⟩
            go_wp2
            go_ret
            exact ⟨rfl, HS4.out.below.trans (b9.mono HS4.out.below.size)⟩
        · obtain rfl : j = 32 := by omega
          have hab : a = b := by
            rw [List.take_of_length_le (by have := la'.out; omega), List.take_of_length_le (by have := lb'.out; omega)] at ht
            exact ht
          have hle := HLS.out hab
          subst hle
          have K3 := hS.k
          have HS4 : Hid _ := hS
          clear hS ht hab HLS HLK HCa HCb
          go_wp2_with fail
          refine (does_any _ K3).mono ?_
          rintro e w9 ⟨rfl, b9⟩
          go_wp2
          go_ret
          exact ⟨rfl, HS4.out.below.trans (b9.mono HS4.out.below.size)⟩
end Go.Proofs.YtiajbepbhfojnaaDoor
