/- Contracts of a writer's Sum; of a writer that is none. -/
import Derived.Test.YtficmbaffkkfhabDoorSe
namespace Go.Proofs.YtficmbaffkkfhabDoor
open Go.RowKit

/-- A text's hash. -/
def shaL (l : List UInt8) : List UInt8 := hashT (stOf (l ++ endL l.length)) 32
theorem shaL_length (l : List UInt8) : (shaL l).length = 32 := hashT_length _ _
theorem info_Wr : (Tryd.prog.info? 66).map (·.size) = some 74 := by kernel_rfl
theorem wc_one (st : Nat → W32) (pd : List UInt8) (n : Nat) : (wc st pd n).all (·.oneCell') = true := by
  rw [Array.all_eq_true_iff_forall_mem]
  intro v hv'
  have h1 : v ∈ (wc st pd n).toList := by simpa using hv'
  rw [wc_list] at h1
  simp only [List.mem_cons, List.mem_append, List.not_mem_nil, or_false] at h1
  rcases h1 with rfl | h1 | h1 | rfl
  · rfl
  · exact (Array.all_eq_true_iff_forall_mem.1 (cf_one 8 st)) v (by simpa using h1)
  · exact (Array.all_eq_true_iff_forall_mem.1 (hv_one pd)) v (by simpa using h1)
  · rfl
set_option maxRecDepth 100000 in
set_option maxHeartbeats 1600000 in
theorem wsum_any (b : Nat) (l : List UInt8) (w : World) (hK : TabK w) (hW : IsW w b l) (hlen : l.length ≤ 549755813888) :
    Calls Tryd.prog 25 #[.pointer (some ⟨b, 0, none⟩)] w fun e w' => e = .returned (.agg (hv (shaL l))) ∧ Below w.heap.size w w' := by
  have hbl := hW.lt
  obtain ⟨pd, hpd, htk, hg⟩ := hW
  have z1 : Hid ((hv (padTo 32 [])).size = 32) := by show _ = _; rw [hv_size, padTo_length (by decide)]
  rw [zero_h32] at z1
  have hzw := (zero_of_info zeroW_info).1
  have z2 : Hid (zeroW.size = 74) := zeroW_size
  have hC : Hid (∀ (w : World) (c : Nat), w.heap[c]? = some (.cells (wc (stOf l) pd l.length) 66 (0, 0)) → IsW w c l) := fun w c h => ⟨pd, hpd, htk, h⟩
  have c0 : Hid ((wc (stOf l) pd l.length)[0]? = some (.bool true)) := wc_0 _ _ _
  have c73 : Hid ((wc (stOf l) pd l.length)[73]? = some (.int .u64 (l.length : Int))) := wc_73 _ _ hpd
  have cs : Hid ((wc (stOf l) pd l.length).size = 74) := wc_size _ _ hpd
  have c1 : Hid ((wc (stOf l) pd l.length).all (·.oneCell') = true) := wc_one _ _ _
  have HG : Hid (w.heap[b]? = some (.cells (wc (stOf l) pd l.length) 66 (0, 0))) := hg
  clear htk hpd hg
  generalize wc (stOf l) pd l.length = C at *
  generalize zeroW = Z at *
  obtain ⟨n, hn⟩ : ∃ n : Nat, n = l.length := ⟨_, rfl⟩
  rw [← hn] at c73
  have q0 : (w.alloc (.cells #[.int .u8 0, .int .u8 0, .int .u8 0, .int .u8 0, .int .u8 0, .int .u8 0, .int .u8 0, .int .u8 0, .int .u8 0, .int .u8 0, .int .u8 0, .int .u8 0, .int .u8 0, .int .u8 0, .int .u8 0, .int .u8 0, .int .u8 0, .int .u8 0, .int .u8 0, .int .u8 0, .int .u8 0, .int .u8 0, .int .u8 0, .int .u8 0, .int .u8 0, .int .u8 0, .int .u8 0, .int .u8 0, .int .u8 0, .int .u8 0, .int .u8 0, .int .u8 0] 22)).heap[b]? = some (.cells C 66 (0, 0)) := by
    rw [Below.heap_alloc _ _ _ hbl]; exact HG.out
  have Q0 : Hid _ := q0
  have r0 := (cell_of_row _ _ 0 _ _ _ q0).trans c0.out
  have R0 : Hid _ := r0
  have HN : Hid (n = l.length) := hn
  clear q0 r0 hn
  have k73 : w.cell? ⟨b, 73, none⟩ = some (.int .u64 (n : Int)) := (cell_of_row _ _ 73 _ _ _ HG.out).trans c73.out
  have hn2 : n ≤ 549755813888 := by have := HN.out; omega
  have HE : Hid (∀ w : World, Calls Tryd.prog 32 #[.int .u64 (n : Int)] w fun e w' => e = .returned (.string (S (endL n))) ∧ Below w.heap.size w w') := fun w => ending_any n w (by omega)
  have HLN : Hid (l.length + (endL n).length ≤ 1099511627776) := by have := HN.out; show _ ≤ _; rw [endL_length]; omega
  have HSH : Hid (hashT (stOf (l ++ endL n)) 32 = shaL l) := by show _ = _; unfold shaL; rw [← HN.out]
  clear hn2 hlen
  generalize endL n = en at *
  go_enter Tryd.func25, Tryd.ntmps25
  go_wp2_with (first | (go_at_call 30; refine (isNone_at b true _ R0.out).mono ?_; rintro e w' ⟨rfl, rfl⟩) | (refine wpList_load_row rfl 66 _ rfl b rfl _ C (0, 0) _ Q0.out Tryd.underlying66 rfl (by rw [info_Wr, cs.out]) ?_) | (refine store_last1 rfl 66 _ _ rfl 74 _ Z C rfl rfl info_Wr z2.out cs.out c1.out ?_))
  refine (HE.out _).mono ?_
  rintro e w2 ⟨rfl, b2⟩
  have hs2 : w.heap.size + 2 ≤ w2.heap.size := by have := b2.size; simp at this; omega
  have g0 : w2.heap[w.heap.size]? = some (.cells #[.int .u8 0, .int .u8 0, .int .u8 0, .int .u8 0, .int .u8 0, .int .u8 0, .int .u8 0, .int .u8 0, .int .u8 0, .int .u8 0, .int .u8 0, .int .u8 0, .int .u8 0, .int .u8 0, .int .u8 0, .int .u8 0, .int .u8 0, .int .u8 0, .int .u8 0, .int .u8 0, .int .u8 0, .int .u8 0, .int .u8 0, .int .u8 0, .int .u8 0, .int .u8 0, .int .u8 0, .int .u8 0, .int .u8 0, .int .u8 0, .int .u8 0, .int .u8 0] 22 (0, 0)) := by
    rw [b2.block _ (by simp; omega), Below.heap_alloc _ _ _ (by simp)]; exact heap_alloc_last _ _
  have g1 : w2.heap[w.heap.size + 1]? = some (.cells C 66 (0, 0)) := by
    rw [b2.block _ (by simp)]
    have := heap_alloc_last (w.alloc (.cells #[.int .u8 0, .int .u8 0, .int .u8 0, .int .u8 0, .int .u8 0, .int .u8 0, .int .u8 0, .int .u8 0, .int .u8 0, .int .u8 0, .int .u8 0, .int .u8 0, .int .u8 0, .int .u8 0, .int .u8 0, .int .u8 0, .int .u8 0, .int .u8 0, .int .u8 0, .int .u8 0, .int .u8 0, .int .u8 0, .int .u8 0, .int .u8 0, .int .u8 0, .int .u8 0, .int .u8 0, .int .u8 0, .int .u8 0, .int .u8 0, .int .u8 0, .int .u8 0] 22)) (.cells C 66)
    simpa using this
  have B2 : Below w.heap.size w w2 := (((Below.refl w.heap.size w).alloc (Nat.le_refl _) _).alloc (by simp) _).trans (b2.mono (by simp; omega))
  have K2 := hK.below B2 hK.lt
  have W2 : Hid (IsW w2 (w.heap.size + 1) l) := hC.out w2 _ g1
  have G0 : Hid _ := g0
  have HB2 : Hid _ := B2
  clear g0 g1 b2 B2 k73
  have hgk := hK.lt
  go_wp2_with fail
  refine (write_any (w.heap.size + 1) l en w2 K2 (by omega) W2.out HLN.out).mono ?_
  rintro e w3 ⟨rfl, W3, B3⟩
  have g3 : Hid (w3.heap[w.heap.size]? = some (.cells #[.int .u8 0, .int .u8 0, .int .u8 0, .int .u8 0, .int .u8 0, .int .u8 0, .int .u8 0, .int .u8 0, .int .u8 0, .int .u8 0, .int .u8 0, .int .u8 0, .int .u8 0, .int .u8 0, .int .u8 0, .int .u8 0, .int .u8 0, .int .u8 0, .int .u8 0, .int .u8 0, .int .u8 0, .int .u8 0, .int .u8 0, .int .u8 0, .int .u8 0, .int .u8 0, .int .u8 0, .int .u8 0, .int .u8 0, .int .u8 0, .int .u8 0, .int .u8 0] 22 (0, 0))) := by show _ = _; rw [B3.block _ (by omega) (by omega)]; exact G0.out
  have HB3 : Hid (Below w.heap.size w w3) := HB2.out.trans (B3.below (by omega) (by omega))
  obtain ⟨pd3, hpd3, htk3, hg3⟩ := W3
  have r3 : Hid (w3.rangeAt (w.heap.size + 1) 1 (cf 8 (stOf (l ++ en))).toList) := wc_range_st hg3
  have e3 : Hid ((Tryd.prog.info? 63).map (·.size) = some (cf 8 (stOf (l ++ en))).toList.length) := by show _ = _; rw [info_w8, cf_len]
  have HH : Hid (∀ w : World, Calls Tryd.prog 33 #[.agg (cf 8 (stOf (l ++ en)))] w fun e w' => e = .returned (.agg (hv (hashT (stOf (l ++ en)) 32))) ∧ Below w.heap.size w w') := hash_any _
  have s3 : w.heap.size + 2 ≤ w3.heap.size := by have := B3.size; omega
  have e4 : (hv (hashT (stOf (l ++ en)) 32)).size = 32 := by rw [hv_size, hashT_length]
  have e5 := hv_one (hashT (stOf (l ++ en)) 32)
  rw [HSH.out] at HH e4 e5
  clear htk3 hg3 hpd3 B3 HSH
  generalize cf 8 (stOf (l ++ en)) = D at *
  generalize hR : hv (shaL l) = R at *
  have HR : Hid (hv (shaL l) = R) := hR
  clear hR
  go_wp2_with (refine wpList_load_mid rfl 63 _ rfl (w.heap.size + 1) 1 rfl D.toList _ r3.out Tryd.underlying63 rfl e3.out ?_)
  refine (HH.out _).mono ?_
  rintro e w4 ⟨rfl, b4⟩
  have g4 : Hid (w4.heap[w.heap.size]? = some (.cells #[.int .u8 0, .int .u8 0, .int .u8 0, .int .u8 0, .int .u8 0, .int .u8 0, .int .u8 0, .int .u8 0, .int .u8 0, .int .u8 0, .int .u8 0, .int .u8 0, .int .u8 0, .int .u8 0, .int .u8 0, .int .u8 0, .int .u8 0, .int .u8 0, .int .u8 0, .int .u8 0, .int .u8 0, .int .u8 0, .int .u8 0, .int .u8 0, .int .u8 0, .int .u8 0, .int .u8 0, .int .u8 0, .int .u8 0, .int .u8 0, .int .u8 0, .int .u8 0] 22 (0, 0))) := by show _ = _; rw [b4.block _ (by omega)]; exact g3.out
  have HB4 : Hid (Below w.heap.size w w4) := HB3.out.trans (b4.mono (by omega))
  go_wp2_with (refine wpList_store_row rfl 22 _ _ rfl w.heap.size R rfl rfl _ _ g4.out (by rw [info_h32, e4]) (by rw [z1.out, e4]) e5 ?_)
  refine bodyPost_ret (v := .agg R) (results_cell1 (p := 2) Tryd.results25 _ _ w.heap.size 32 22 5 R (0, 0) rfl (heap_setRow_same g4.out) Tryd.underlying22 info_h32 e4) rfl ⟨by rw [HR.out], below_setRow HB4.out (Nat.le_refl _) _⟩
theorem write_nil (s : ByteArray) (w : World) : Calls Tryd.prog 24 #[.pointer none, .string s] w fun e w' => e = .returned (.int .i64 1) ∧ w' = w := by
  go_enter Tryd.func24, Tryd.ntmps24
  go_wp2_with (go_at_call 30; refine (isNone_nil _).mono ?_; rintro e w' ⟨rfl, rfl⟩)
  go_ret
  exact ⟨rfl, rfl⟩
theorem write_none (b : Nat) (s : ByteArray) (w : World) (hc : w.cell? ⟨b, 0, none⟩ = some (.bool false)) : Calls Tryd.prog 24 #[.pointer (some ⟨b, 0, none⟩), .string s] w fun e w' => e = .returned (.int .i64 1) ∧ w' = w := by
  go_enter Tryd.func24, Tryd.ntmps24
  go_wp2_with (go_at_call 30; refine (isNone_at b false _ hc).mono ?_; rintro e w' ⟨rfl, rfl⟩)
  go_ret
  exact ⟨rfl, rfl⟩
set_option maxRecDepth 100000 in
theorem wsum_nil (w : World) : Calls Tryd.prog 25 #[.pointer none] w fun e w' => e = .returned (.agg (hv (padTo 32 []))) ∧ Below w.heap.size w w' := by
  have z1 : Hid ((hv (padTo 32 [])).size = 32) := by show _ = _; rw [hv_size, padTo_length (by decide)]
  have z2 : Hid ((hv (padTo 32 [])).all (·.oneCell') = true) := hv_one _
  rw [zero_h32] at z1 z2 ⊢
  go_enter Tryd.func25, Tryd.ntmps25
  go_wp2_with (first | (go_at_call 30; refine (isNone_nil _).mono ?_; rintro e w' ⟨rfl, rfl⟩) | (refine store_last rfl 22 _ _ rfl 32 _ _ _ rfl rfl info_h32 z1.out z1.out z2.out ?_))
  exact bodyPost_ret (v := .agg _) (results_cell1 (p := 2) Tryd.results25 _ _ w.heap.size 32 22 5 _ (0, 0) rfl (heap_alloc_last w _) Tryd.underlying22 info_h32 z1.out) rfl ⟨rfl, (Below.refl _ _).alloc (Nat.le_refl _) _⟩
set_option maxRecDepth 100000 in
theorem wsum_none (b : Nat) (w : World) (hc : w.cell? ⟨b, 0, none⟩ = some (.bool false)) : Calls Tryd.prog 25 #[.pointer (some ⟨b, 0, none⟩)] w fun e w' => e = .returned (.agg (hv (padTo 32 []))) ∧ Below w.heap.size w w' := by
  have z1 : Hid ((hv (padTo 32 [])).size = 32) := by show _ = _; rw [hv_size, padTo_length (by decide)]
  have z2 : Hid ((hv (padTo 32 [])).all (·.oneCell') = true) := hv_one _
  rw [zero_h32] at z1 z2 ⊢
  have hc' : Hid (∀ ob, (w.alloc ob).cell? ⟨b, 0, none⟩ = some (.bool false)) := fun ob => by rw [World.cell?_alloc_some _ _ _ (by rw [hc]; rfl)]; exact hc
  go_enter Tryd.func25, Tryd.ntmps25
  go_wp2_with (first | (go_at_call 30; refine (isNone_at b false _ (hc'.out _)).mono ?_; rintro e w' ⟨rfl, rfl⟩) | (refine store_last rfl 22 _ _ rfl 32 _ _ _ rfl rfl info_h32 z1.out z1.out z2.out ?_))
  exact bodyPost_ret (v := .agg _) (results_cell1 (p := 2) Tryd.results25 _ _ w.heap.size 32 22 5 _ (0, 0) rfl (heap_alloc_last w _) Tryd.underlying22 info_h32 z1.out) rfl ⟨rfl, (Below.refl _ _).alloc (Nat.le_refl _) _⟩
end Go.Proofs.YtficmbaffkkfhabDoor
