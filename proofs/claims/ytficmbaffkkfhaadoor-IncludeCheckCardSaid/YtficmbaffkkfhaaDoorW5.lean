/- The words of a block, one by one; how a hash is reckoned by the kernel: nothing of the program. -/
import Derived.Test.YtficmbaffkkfhaaDoorSe
import Derived.Test.YtficmbaffkkfhaaDoorSd
/- Contracts of a writer's Sum; of a writer that is none. -/
namespace Go.Proofs.YtficmbaffkkfhaaDoor
open Go.RowKit

/-- A text's hash. -/
def shaL (l : List UInt8) : List UInt8 := hashT (stOf (l ++ endL l.length)) 32
theorem shaL_length (l : List UInt8) : (shaL l).length = 32 := hashT_length _ _
theorem info_Wr : (Tryd.prog.info? 80).map (·.size) = some 74 := by kernel_rfl
theorem wc_one (st : Nat → W32) (pd : List UInt8) (n : Nat) : (wc st pd n).all (·.oneCell') = true := by
  rw [Array.all_eq_true_iff_forall_mem]
  intro v hv'
  have h1 : v ∈ (wc st pd n).toList := by simpa using hv'
  rw [wc_list] at h1
  simp only [List.mem_cons, List.mem_append, List.not_mem_nil, or_false] at h1
  rcases h1 with rfl | h1 | h1 | rfl
  · rfl
  · exact (Array.all_eq_true_iff_forall_mem.1 (cf_one 8 st)) v (by simpa using h1)
  · exact (Array.all_eq_true_iff_forall_mem.1 (hv_one pd)) v (by simpa using h1)
  · rfl
set_option maxRecDepth 100000 in
set_option maxHeartbeats 1600000 in
theorem wsum_any (b : Nat) (l : List UInt8) (w : World) (hK : TabK w) (hW : IsW w b l) (hlen : l.length ≤ 549755813888) :
    Calls Tryd.prog 39 #[.pointer (some ⟨b, 0, none⟩)] w fun e w' => e = .returned (.agg (hv (shaL l))) ∧ Below w.heap.size w w' := by
  have hbl := hW.lt
  obtain ⟨pd, hpd, htk, hg⟩ := hW
  have z1 : Hid ((hv (padTo 32 [])).size = 32) := by show _ = _; rw [hv_size, padTo_length (by decide)]
  rw [zero_h32] at z1
  have hzw := (zero_of_info zeroW_info).1
  have z2 : Hid (zeroW.size = 74) := zeroW_size
  have hC : Hid (∀ (w : World) (c : Nat), w.heap[c]? = some (.cells (wc (stOf l) pd l.length) 80 (0, 0)) → IsW w c l) := fun w c h => ⟨pd, hpd, htk, h⟩
  have c0 : Hid ((wc (stOf l) pd l.length)[0]? = some (.bool true)) := wc_0 _ _ _
  have c73 : Hid ((wc (stOf l) pd l.length)[73]? = some (.int .u64 (l.length : Int))) := wc_73 _ _ hpd
  have cs : Hid ((wc (stOf l) pd l.length).size = 74) := wc_size _ _ hpd
  have c1 : Hid ((wc (stOf l) pd l.length).all (·.oneCell') = true) := wc_one _ _ _
  have HG : Hid (w.heap[b]? = some (.cells (wc (stOf l) pd l.length) 80 (0, 0))) := hg
  clear htk hpd hg
  generalize wc (stOf l) pd l.length = C at *
  generalize zeroW = Z at *
  obtain ⟨n, hn⟩ : ∃ n : Nat, n = l.length := ⟨_, rfl⟩
  rw [← hn] at c73
  have q0 : (w.alloc (.cells #[.int .u8 0, .int .u8 0, .int .u8 0, .int .u8 0, .int .u8 0, .int .u8 0, .int .u8 0, .int .u8 0, .int .u8 0, .int .u8 0, .int .u8 0, .int .u8 0, .int .u8 0, .int .u8 0, .int .u8 0, .int .u8 0, .int .u8 0, .int .u8 0, .int .u8 0, .int .u8 0, .int .u8 0, .int .u8 0, .int .u8 0, .int .u8 0, .int .u8 0, .int .u8 0, .int .u8 0, .int .u8 0, .int .u8 0, .int .u8 0, .int .u8 0, .int .u8 0] 23)).heap[b]? = some (.cells C 80 (0, 0)) := by
    rw [Below.heap_alloc _ _ _ hbl]; exact HG.out
  have Q0 : Hid _ := q0
  have r0 := (cell_of_row _ _ 0 _ _ _ q0).trans c0.out
  have R0 : Hid _ := r0
  have HN : Hid (n = l.length) := hn
  clear q0 r0 hn
  have k73 : w.cell? ⟨b, 73, none⟩ = some (.int .u64 (n : Int)) := (cell_of_row _ _ 73 _ _ _ HG.out).trans c73.out
  have hn2 : n ≤ 549755813888 := by have := HN.out; omega
  have HE : Hid (∀ w : World, Calls Tryd.prog 48 #[.int .u64 (n : Int)] w fun e w' => e = .returned (.string (S (endL n))) ∧ Below w.heap.size w w') := fun w => ending_any n w (by omega)
  have HLN : Hid (l.length + (endL n).length ≤ 1099511627776) := by have := HN.out; show _ ≤ _; rw [endL_length]; omega
  have HSH : Hid (hashT (stOf (l ++ endL n)) 32 = shaL l) := by show _ = _; unfold shaL; rw [← HN.out]
  clear hn2 hlen
  generalize endL n = en at *
  go_enter Tryd.func39, Tryd.ntmps39
  go_wp2_with (first | (go_at_call 46; refine (isNone_at b true _ R0.out).mono ?_; rintro e w' ⟨rfl, rfl⟩) | (refine wpList_load_row rfl 80 _ rfl b rfl _ C (0, 0) _ Q0.out Tryd.underlying80 rfl (by rw [info_Wr, cs.out]) ?_) | (refine store_last1 rfl 80 _ _ rfl 74 _ Z C rfl rfl info_Wr z2.out cs.out c1.out ?_))
  refine (HE.out _).mono ?_
  rintro e w2 ⟨rfl, b2⟩
  have hs2 : w.heap.size + 2 ≤ w2.heap.size := by have := b2.size; simp at this; omega
  have g0 : w2.heap[w.heap.size]? = some (.cells #[.int .u8 0, .int .u8 0, .int .u8 0, .int .u8 0, .int .u8 0, .int .u8 0, .int .u8 0, .int .u8 0, .int .u8 0, .int .u8 0, .int .u8 0, .int .u8 0, .int .u8 0, .int .u8 0, .int .u8 0, .int .u8 0, .int .u8 0, .int .u8 0, .int .u8 0, .int .u8 0, .int .u8 0, .int .u8 0, .int .u8 0, .int .u8 0, .int .u8 0, .int .u8 0, .int .u8 0, .int .u8 0, .int .u8 0, .int .u8 0, .int .u8 0, .int .u8 0] 23 (0, 0)) := by
    rw [b2.block _ (by simp; omega), Below.heap_alloc _ _ _ (by simp)]; exact heap_alloc_last _ _
  have g1 : w2.heap[w.heap.size + 1]? = some (.cells C 80 (0, 0)) := by
    rw [b2.block _ (by simp)]
    have := heap_alloc_last (w.alloc (.cells #[.int .u8 0, .int .u8 0, .int .u8 0, .int .u8 0, .int .u8 0, .int .u8 0, .int .u8 0, .int .u8 0, .int .u8 0, .int .u8 0, .int .u8 0, .int .u8 0, .int .u8 0, .int .u8 0, .int .u8 0, .int .u8 0, .int .u8 0, .int .u8 0, .int .u8 0, .int .u8 0, .int .u8 0, .int .u8 0, .int .u8 0, .int .u8 0, .int .u8 0, .int .u8 0, .int .u8 0, .int .u8 0, .int .u8 0, .int .u8 0, .int .u8 0, .int .u8 0] 23)) (.cells C 80)
    simpa using this
  have B2 : Below w.heap.size w w2 := (((Below.refl w.heap.size w).alloc (Nat.le_refl _) _).alloc (by simp) _).trans (b2.mono (by simp; omega))
  have K2 := hK.below B2 hK.lt
  have W2 : Hid (IsW w2 (w.heap.size + 1) l) := hC.out w2 _ g1
  have G0 : Hid _ := g0
  have HB2 : Hid _ := B2
  clear g0 g1 b2 B2 k73
  have hgk := hK.lt
  go_wp2_with fail
  refine (write_any (w.heap.size + 1) l en w2 K2 (by omega) W2.out HLN.out).mono ?_
  rintro e w3 ⟨rfl, W3, B3⟩
  have g3 : Hid (w3.heap[w.heap.size]? = some (.cells #[.int .u8 0, .int .u8 0, .int .u8 0, .int .u8 0, .int .u8 0, .int .u8 0, .int .u8 0, .int .u8 0, .int .u8 0, .int .u8 0, .int .u8 0, .int .u8 0, .int .u8 0, .int .u8 0, .int .u8 0, .int .u8 0, .int .u8 0, .int .u8 0, .int .u8 0, .int .u8 0, .int .u8 0, .int .u8 0, .int .u8 0, .int .u8 0, .int .u8 0, .int .u8 0, .int .u8 0, .int .u8 0, .int .u8 0, .int .u8 0, .int .u8 0, .int .u8 0] 23 (0, 0))) := by show _ = _; rw [B3.block _ (by omega) (by omega)]; exact G0.out
  have HB3 : Hid (Below w.heap.size w w3) := HB2.out.trans (B3.below (by omega) (by omega))
  obtain ⟨pd3, hpd3, htk3, hg3⟩ := W3
  have r3 : Hid (w3.rangeAt (w.heap.size + 1) 1 (cf 8 (stOf (l ++ en))).toList) := wc_range_st hg3
  have e3 : Hid ((Tryd.prog.info? 77).map (·.size) = some (cf 8 (stOf (l ++ en))).toList.length) := by show _ = _; rw [info_w8, cf_len]
  have HH : Hid (∀ w : World, Calls Tryd.prog 49 #[.agg (cf 8 (stOf (l ++ en)))] w fun e w' => e = .returned (.agg (hv (hashT (stOf (l ++ en)) 32))) ∧ Below w.heap.size w w') := hash_any _
  have s3 : w.heap.size + 2 ≤ w3.heap.size := by have := B3.size; omega
  have e4 : (hv (hashT (stOf (l ++ en)) 32)).size = 32 := by rw [hv_size, hashT_length]
  have e5 := hv_one (hashT (stOf (l ++ en)) 32)
  rw [HSH.out] at HH e4 e5
  clear htk3 hg3 hpd3 B3 HSH
  generalize cf 8 (stOf (l ++ en)) = D at *
  generalize hR : hv (shaL l) = R at *
  have HR : Hid (hv (shaL l) = R) := hR
  clear hR
  go_wp2_with (refine wpList_load_mid rfl 77 _ rfl (w.heap.size + 1) 1 rfl D.toList _ r3.out Tryd.underlying77 rfl e3.out ?_)
  refine (HH.out _).mono ?_
  rintro e w4 ⟨rfl, b4⟩
  have g4 : Hid (w4.heap[w.heap.size]? = some (.cells #[.int .u8 0, .int .u8 0, .int .u8 0, .int .u8 0, .int .u8 0, .int .u8 0, .int .u8 0, .int .u8 0, .int .u8 0, .int .u8 0, .int .u8 0, .int .u8 0, .int .u8 0, .int .u8 0, .int .u8 0, .int .u8 0, .int .u8 0, .int .u8 0, .int .u8 0, .int .u8 0, .int .u8 0, .int .u8 0, .int .u8 0, .int .u8 0, .int .u8 0, .int .u8 0, .int .u8 0, .int .u8 0, .int .u8 0, .int .u8 0, .int .u8 0, .int .u8 0] 23 (0, 0))) := by show _ = _; rw [b4.block _ (by omega)]; exact g3.out
  have HB4 : Hid (Below w.heap.size w w4) := HB3.out.trans (b4.mono (by omega))
  go_wp2_with (refine wpList_store_row rfl 23 _ _ rfl w.heap.size R rfl rfl _ _ g4.out (by rw [info_h32, e4]) (by rw [z1.out, e4]) e5 ?_)
  refine bodyPost_ret (v := .agg R) (results_cell1 (p := 2) Tryd.results39 _ _ w.heap.size 32 23 5 R (0, 0) rfl (heap_setRow_same g4.out) Tryd.underlying23 info_h32 e4) rfl ⟨by rw [HR.out], below_setRow HB4.out (Nat.le_refl _) _⟩
theorem write_nil (s : ByteArray) (w : World) : Calls Tryd.prog 38 #[.pointer none, .string s] w fun e w' => e = .returned (.int .i64 1) ∧ w' = w := by
  go_enter Tryd.func38, Tryd.ntmps38
  go_wp2_with (go_at_call 46; refine (isNone_nil _).mono ?_; rintro e w' ⟨rfl, rfl⟩)
  go_ret
  exact ⟨rfl, rfl⟩
theorem write_none (b : Nat) (s : ByteArray) (w : World) (hc : w.cell? ⟨b, 0, none⟩ = some (.bool false)) : Calls Tryd.prog 38 #[.pointer (some ⟨b, 0, none⟩), .string s] w fun e w' => e = .returned (.int .i64 1) ∧ w' = w := by
  go_enter Tryd.func38, Tryd.ntmps38
  go_wp2_with (go_at_call 46; refine (isNone_at b false _ hc).mono ?_; rintro e w' ⟨rfl, rfl⟩)
  go_ret
  exact ⟨rfl, rfl⟩
set_option maxRecDepth 100000 in
theorem wsum_nil (w : World) : Calls Tryd.prog 39 #[.pointer none] w fun e w' => e = .returned (.agg (hv (padTo 32 []))) ∧ Below w.heap.size w w' := by
  have z1 : Hid ((hv (padTo 32 [])).size = 32) := by show _ = _; rw [hv_size, padTo_length (by decide)]
  have z2 : Hid ((hv (padTo 32 [])).all (·.oneCell') = true) := hv_one _
  rw [zero_h32] at z1 z2 ⊢
  go_enter Tryd.func39, Tryd.ntmps39
  go_wp2_with (first | (go_at_call 46; refine (isNone_nil _).mono ?_; rintro e w' ⟨rfl, rfl⟩) | (refine store_last rfl 23 _ _ rfl 32 _ _ _ rfl rfl info_h32 z1.out z1.out z2.out ?_))
  exact bodyPost_ret (v := .agg _) (results_cell1 (p := 2) Tryd.results39 _ _ w.heap.size 32 23 5 _ (0, 0) rfl (heap_alloc_last w _) Tryd.underlying23 info_h32 z1.out) rfl ⟨rfl, (Below.refl _ _).alloc (Nat.le_refl _) _⟩
set_option maxRecDepth 100000 in
theorem wsum_none (b : Nat) (w : World) (hc : w.cell? ⟨b, 0, none⟩ = some (.bool false)) : Calls Tryd.prog 39 #[.pointer (some ⟨b, 0, none⟩)] w fun e w' => e = .returned (.agg (hv (padTo 32 []))) ∧ Below w.heap.size w w' := by
  have z1 : Hid ((hv (padTo 32 [])).size = 32) := by show _ = _; rw [hv_size, padTo_length (by decide)]
  have z2 : Hid ((hv (padTo 32 [])).all (·.oneCell') = true) := hv_one _
  rw [zero_h32] at z1 z2 ⊢
  have hc' : Hid (∀ ob, (w.alloc ob).cell? ⟨b, 0, none⟩ = some (.bool false)) := fun ob => by rw [World.cell?_alloc_some _ _ _ (by rw [hc]; rfl)]; exact hc
  go_enter Tryd.func39, Tryd.ntmps39
  go_wp2_with (first | (go_at_call 46; refine (isNone_at b false _ (hc'.out _)).mono ?_; rintro e w' ⟨rfl, rfl⟩) | (refine store_last rfl 23 _ _ rfl 32 _ _ _ rfl rfl info_h32 z1.out z1.out z2.out ?_))
  exact bodyPost_ret (v := .agg _) (results_cell1 (p := 2) Tryd.results39 _ _ w.heap.size 32 23 5 _ (0, 0) rfl (heap_alloc_last w _) Tryd.underlying23 info_h32 z1.out) rfl ⟨rfl, (Below.refl _ _).alloc (Nat.le_refl _) _⟩
end Go.Proofs.YtficmbaffkkfhaaDoor

namespace Go.Proofs.YtficmbaffkkfhaaDoor
open Go.RowKit

theorem schT_keep (l : List UInt8) (t j : Nat) (h : j ≠ t + 16) : schT l (t + 1) j = schT l t j := upd_other _ _ h
theorem schT_stay (l : List UInt8) (j : Nat) : ∀ n t, j < t + 16 → schT l (t + n) j = schT l t j
  | 0, _, _ => rfl
  | n + 1, t, h => by
    rw [show t + (n + 1) = (t + n) + 1 by omega, schT_keep l (t + n) j (by omega)]
    exact schT_stay l j n t h
theorem sch_at (l : List UInt8) (t j : Nat) (ht : t ≤ 48) (h : j < t + 16) : sch l j = schT l t j := by
  unfold sch
  rw [show 48 = t + (48 - t) by omega]
  exact schT_stay l j _ t h
theorem sch_first (l : List UInt8) (j : Nat) (h : j < 16) : sch l j = fill l 64 j := sch_at l 0 j (by omega) (by omega)
theorem sch_next (l : List UInt8) (t : Nat) (h : t < 48) : sch l (t + 16) = s1 (sch l (t + 14)) + sch l (t + 9) + s0 (sch l (t + 1)) + sch l t := by
  rw [sch_at l (t + 1) (t + 16) (by omega) (by omega), sch_at l t (t + 14) (by omega) (by omega), sch_at l t (t + 9) (by omega) (by omega), sch_at l t (t + 1) (by omega) (by omega), sch_at l t t (by omega) (by omega)]
  exact upd_same _ _ _

/-- A number is reckoned ahead of what goes on with it. -/
def fz {α : Type} (n : Nat) (k : Nat → α) : α := Nat.rec (k 0) (fun m _ => k (Nat.succ m)) n
theorem fz_eq {α : Type} (n : Nat) (k : Nat → α) : fz n k = k n := by cases n <;> rfl
/-- Words, the last one first. -/
def sc1 (l : List UInt8) : Nat → List Nat → List Nat
  | 0, ws => ws
  | n + 1, ws => fz (fill l 64 (15 - n)).toNat fun x => sc1 l n (x :: ws)
def wd (ws : List Nat) (i : Nat) : W32 := BitVec.ofNat 32 (ws.getD i 0)
def sc2 : Nat → List Nat → List Nat
  | 0, ws => ws
  | n + 1, ws => fz (s1 (wd ws 1) + wd ws 6 + s0 (wd ws 14) + wd ws 15).toNat fun x => sc2 n (x :: ws)
/-- As many words of a block, the last one first. -/
def Back (l : List UInt8) (n : Nat) (ws : List Nat) : Prop := ws.length = n ∧ ∀ i, i < n → wd ws i = sch l (n - 1 - i)
theorem Back.snoc {l : List UInt8} {n : Nat} {ws : List Nat} (h : Back l n ws) (x : W32) (hx : x = sch l n) : Back l (n + 1) (x.toNat :: ws) := by
  refine ⟨by simp [h.1], fun i hi => ?_⟩
  cases i with
  | zero => simp [wd, hx]
  | succ i =>
    have := h.2 i (by omega)
    rw [show n + 1 - 1 - (i + 1) = n - 1 - i by omega, ← this]
    simp [wd]
theorem sc1_back (l : List UInt8) : ∀ n ws, n ≤ 16 → Back l (16 - n) ws → Back l 16 (sc1 l n ws)
  | 0, _, _, h => h
  | n + 1, ws, hn, h => by
    rw [sc1, fz_eq]
    refine sc1_back l n _ (by omega) ?_
    have := h.snoc (fill l 64 (15 - n)) (by rw [sch_first l _ (by omega), show 16 - (n + 1) = 15 - n by omega])
    rwa [show 16 - (n + 1) + 1 = 16 - n by omega] at this
theorem sc2_back (l : List UInt8) : ∀ n ws, n ≤ 48 → Back l (64 - n) ws → Back l 64 (sc2 n ws)
  | 0, _, _, h => h
  | n + 1, ws, hn, h => by
    rw [sc2, fz_eq]
    refine sc2_back l n _ (by omega) ?_
    have e := sch_next l (47 - n) (by omega)
    have := h.snoc (s1 (wd ws 1) + wd ws 6 + s0 (wd ws 14) + wd ws 15) (by
      rw [h.2 1 (by omega), h.2 6 (by omega), h.2 14 (by omega), h.2 15 (by omega), show 64 - (n + 1) = 47 - n + 16 by omega, e]
      rw [show 47 - n + 16 - 1 - 1 = 47 - n + 14 by omega, show 47 - n + 16 - 1 - 6 = 47 - n + 9 by omega, show 47 - n + 16 - 1 - 14 = 47 - n + 1 by omega, show 47 - n + 16 - 1 - 15 = 47 - n by omega])
    rwa [show 64 - (n + 1) + 1 = 64 - n by omega] at this
/-- A block's 64 words, in order. -/
def scL (l : List UInt8) : List Nat := (sc2 48 (sc1 l 16 [])).reverse
theorem scL_at (l : List UInt8) (i : Nat) (h : i < 64) : wd (scL l) i = sch l i := by
  have hb := sc2_back l 48 (sc1 l 16 []) (by omega) (sc1_back l 16 [] (by omega) ⟨rfl, fun i hi => by omega⟩)
  have := hb.2 (63 - i) (by omega)
  rw [show 64 - 1 - (63 - i) = i by omega] at this
  rw [← this]
  unfold wd scL
  congr 1
  rw [List.getD_eq_getElem?_getD, List.getD_eq_getElem?_getD, List.getElem?_reverse (by rw [hb.1]; exact h), hb.1]
theorem scL_length (l : List UInt8) : (scL l).length = 64 := by
  have hb := sc2_back l 48 (sc1 l 16 []) (by omega) (sc1_back l 16 [] (by omega) ⟨rfl, fun i hi => by omega⟩)
  simp [scL, hb.1]
/-- Eight words. -/
def vv (a b c d e f g h : Nat) : Nat → W32 := wd [a, b, c, d, e, f, g, h]
def ev : List Nat → List Nat → Nat → Nat → Nat → Nat → Nat → Nat → Nat → Nat → List Nat
  | k :: ks, w :: ws, a, b, c, d, e, f, g, h =>
    fz (tOne (vv a b c d e f g h) (BitVec.ofNat 32 k) (BitVec.ofNat 32 w)).toNat fun t1 =>
    fz (BitVec.ofNat 32 t1 + tTwo (vv a b c d e f g h)).toNat fun x =>
    fz (BitVec.ofNat 32 d + BitVec.ofNat 32 t1).toNat fun y => ev ks ws x a b c y e f g
  | _, _, a, b, c, d, e, f, g, h => [a, b, c, d, e, f, g, h]
theorem turn_congr {u v : Nat → W32} (h : ∀ j, j < 8 → u j = v j) (k w : W32) : ∀ j, j < 8 → turn u k w j = turn v k w j := by
  intro j hj
  have e1 : tOne u k w = tOne v k w := by unfold tOne; rw [h 7 (by omega), h 4 (by omega), h 5 (by omega), h 6 (by omega)]
  have e2 : tTwo u = tTwo v := by unfold tTwo; rw [h 0 (by omega), h 1 (by omega), h 2 (by omega)]
  unfold turn
  rw [e1, e2, h 3 (by omega)]
  by_cases h0 : j = 0
  · simp [h0]
  · simp only [h0, if_false]; rw [h (j - 1) (by omega)]
theorem ofn (x : W32) : BitVec.ofNat 32 x.toNat = x := by simp
theorem ev_spec (wf s : Nat → W32) : ∀ (n t : Nat) (ks ws : List Nat) (a b c d e f g h : Nat), n + t = 64 → ks.length = n → ws.length = n → (∀ i, i < n → wd ks i = kk (t + i)) → (∀ i, i < n → wd ws i = wf (t + i)) →
    (∀ j, j < 8 → turns wf s t j = vv a b c d e f g h j) → ∀ j, j < 8 → turns wf s 64 j = wd (ev ks ws a b c d e f g h) j
  | 0, t, [], [], a, b, c, d, e, f, g, h, hn, _, _, _, _, hv, j, hj => by
    obtain rfl : t = 64 := by omega
    exact hv j hj
  | n + 1, t, k :: ks, w :: ws, a, b, c, d, e, f, g, h, hn, hk, hw, hks, hws, hv, j, hj => by
    rw [ev, fz_eq, fz_eq, fz_eq]
    refine ev_spec wf s n (t + 1) ks ws _ _ _ _ _ _ _ _ (by omega) (by simpa using hk) (by simpa using hw) (fun i hi => ?_) (fun i hi => ?_) ?_ j hj
    · have := hks (i + 1) (by omega)
      rw [show t + (i + 1) = t + 1 + i by omega] at this
      simpa [wd] using this
    · have := hws (i + 1) (by omega)
      rw [show t + (i + 1) = t + 1 + i by omega] at this
      simpa [wd] using this
    · intro j hj
      have e1 : kk t = BitVec.ofNat 32 k := by have := hks 0 (by omega); simpa [wd] using this.symm
      have e2 : wf t = BitVec.ofNat 32 w := by have := hws 0 (by omega); simpa [wd] using this.symm
      rw [turns, turn_congr hv _ _ j hj, e1, e2]
      have : j = 0 ∨ j = 1 ∨ j = 2 ∨ j = 3 ∨ j = 4 ∨ j = 5 ∨ j = 6 ∨ j = 7 := by omega
      rcases this with rfl | rfl | rfl | rfl | rfl | rfl | rfl | rfl
      · show tOne _ _ _ + tTwo _ = BitVec.ofNat 32 (BitVec.ofNat 32 (tOne _ _ _).toNat + tTwo _).toNat
        rw [ofn, ofn]
      · rfl
      · rfl
      · rfl
      · show BitVec.ofNat 32 d + tOne _ _ _ = BitVec.ofNat 32 (BitVec.ofNat 32 d + BitVec.ofNat 32 (tOne _ _ _).toNat).toNat
        rw [ofn, ofn]
      · rfl
      · rfl
      · rfl
  | 0, _, _ :: _, _, _, _, _, _, _, _, _, _, _, hk, _, _, _, _, _, _ => by simp at hk
  | 0, _, [], _ :: _, _, _, _, _, _, _, _, _, _, _, hw, _, _, _, _, _ => by simp at hw
  | n + 1, _, [], _, _, _, _, _, _, _, _, _, _, hk, _, _, _, _, _, _ => by simp at hk
  | n + 1, _, _ :: _, [], _, _, _, _, _, _, _, _, _, _, hw, _, _, _, _, _ => by simp at hw
/-- The state behind one block, reckoned. -/
def ev1 (l : List UInt8) : List Nat := ev kList (scL l) 1779033703 3144134277 1013904242 2773480762 1359893119 2600822924 528734635 1541459225
theorem ev1_spec (l : List UInt8) (j : Nat) (hj : j < 8) : bhd ini l j = ini j + wd (ev1 l) j := by
  unfold bhd
  congr 1
  exact ev_spec (sch l) ini 64 0 kList (scL l) _ _ _ _ _ _ _ _ rfl rfl (scL_length l) (fun i _ => by rw [Nat.zero_add]; rfl) (fun i hi => by rw [Nat.zero_add]; exact scL_at l i hi) (fun j hj => by
    show ini j = _
    have : j = 0 ∨ j = 1 ∨ j = 2 ∨ j = 3 ∨ j = 4 ∨ j = 5 ∨ j = 6 ∨ j = 7 := by omega
    rcases this with rfl | rfl | rfl | rfl | rfl | rfl | rfl | rfl <;> rfl) j hj
theorem hb_congr {u v : Nat → W32} (h : ∀ j, j < 8 → u j = v j) (i : Nat) (hi : i < 32) : hb u i = hb v i := by
  unfold hb; rw [h (i / 4) (by omega)]
theorem hashT_congr {u v : Nat → W32} (h : ∀ j, j < 8 → u j = v j) : hashT u 32 = hashT v 32 := by
  unfold hashT
  apply List.map_congr_left
  intro i hi
  exact hb_congr h i (by simpa using hi)
/-- The hash of a text whose message is one block, reckoned. -/
def hash1 (b : List UInt8) : List UInt8 := match ev1 b with
  | [a, b, c, d, e, f, g, h] => hashT (fun j => ini j + vv a b c d e f g h j) 32
  | _ => []
theorem ev_form : ∀ (ks ws : List Nat) (a b c d e f g h : Nat), ∃ a' b' c' d' e' f' g' h', ev ks ws a b c d e f g h = [a', b', c', d', e', f', g', h']
  | k :: ks, w :: ws, a, b, c, d, e, f, g, h => by
    rw [ev, fz_eq, fz_eq, fz_eq]
    exact ev_form ks ws _ _ _ _ _ _ _ _
  | [], _, a, b, c, d, e, f, g, h => ⟨a, b, c, d, e, f, g, h, by rw [ev]; intro _ _ _ _ h; cases h⟩
  | _ :: _, [], a, b, c, d, e, f, g, h => ⟨a, b, c, d, e, f, g, h, by rw [ev]; intro _ _ _ _ _ h; cases h⟩
theorem shaL_one (l : List UInt8) (h : (l ++ endL l.length).length = 64) : shaL l = hash1 (l ++ endL l.length) := by
  unfold shaL
  generalize l ++ endL l.length = m at *
  have e : stOf m = bhd ini m := by
    unfold stOf
    rw [h]
    show bhd ini ((m.drop (64 * 0)).take 64) = _
    rw [Nat.mul_zero, List.drop_zero, List.take_of_length_le (by omega)]
  rw [e, hashT_congr (ev1_spec m)]
  unfold hash1
  obtain ⟨a, b, c, d, e, f, g, h, hev⟩ := ev_form kList (scL m) 1779033703 3144134277 1013904242 2773480762 1359893119 2600822924 528734635 1541459225
  unfold ev1
  rw [hev]
  rfl
end Go.Proofs.YtficmbaffkkfhaaDoor
