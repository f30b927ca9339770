/- Contracts of New and of a writer's Write. -/
import Derived.Test.YtficmbaffkkfhaaDoorSd
import Derived.Test.YtficmbaffkkfhaaDoorSq
import Derived.Test.YtficmbaffkkfhaaDoorW1
namespace Go.Proofs.YtficmbaffkkfhaaDoor
open Go.RowKit

/-- A writer in block b to which l was written. -/
def IsW (w : World) (b : Nat) (l : List UInt8) : Prop := ∃ pd : List UInt8, pd.length = 64 ∧ pd.take (l.length % 64) = l.drop (l.length / 64 * 64) ∧ w.heap[b]? = some (.cells (wc (stOf l) pd l.length) 80 (0, 0))
theorem IsW.other {w w' : World} {b c : Nat} {l : List UInt8} (h : IsW w b l) (hb : But c w w') (hne : b ≠ c) (hlt : b < w.heap.size) : IsW w' b l := by
  obtain ⟨pd, h1, h2, h3⟩ := h
  exact ⟨pd, h1, h2, by rw [hb.block b hlt hne]; exact h3⟩
theorem IsW.below {w w' : World} {n b : Nat} {l : List UInt8} (h : IsW w b l) (hb : Below n w w') (hlt : b < n) : IsW w' b l := by
  obtain ⟨pd, h1, h2, h3⟩ := h
  exact ⟨pd, h1, h2, by rw [hb.block b hlt]; exact h3⟩
theorem IsW.lt {w : World} {b : Nat} {l : List UInt8} (h : IsW w b l) : b < w.heap.size := by
  obtain ⟨pd, _, _, h⟩ := h
  rcases Nat.lt_or_ge b w.heap.size with h1 | h1
  · exact h1
  · rw [Array.getElem?_eq_none h1] at h; cases h
theorem TabK.but {w w' : World} {b : Nat} (h : TabK w) (hb : But b w w') (hn : 2 < b) : TabK w' := by
  have hlt := h.lt
  obtain ⟨t, fr, h⟩ := h
  exact ⟨t, fr, by rw [hb.block _ hlt (by omega)]; exact h⟩

/-- A writer of zeros. -/
def zeroW : Array Value := (Value.bool false :: ((cf 8 fun _ => 0).toList ++ ((hv (List.replicate 64 0)).toList ++ [Value.int .u64 0]))).toArray
theorem zeroW_info : (Tryd.prog.info? 80).map (fun i => (i.zero, i.size)) = some (some (.agg zeroW), 74) := by kernel_rfl
theorem zeroW_size : zeroW.size = 74 := by kernel_rfl
theorem new_cells : (((((((((zeroW.setIfInBounds 0 (.bool true)).setIfInBounds 1 (.int .u32 1779033703)).setIfInBounds 2 (.int .u32 3144134277)).setIfInBounds 3 (.int .u32 1013904242)).setIfInBounds 4 (.int .u32 2773480762)).setIfInBounds 5 (.int .u32 1359893119)).setIfInBounds 6 (.int .u32 2600822924)).setIfInBounds 7 (.int .u32 528734635)).setIfInBounds 8 (.int .u32 1541459225)) = wc (stOf []) (List.replicate 64 0) 0 := by kernel_rfl
set_option maxRecDepth 100000 in
theorem new_any (w : World) : Calls Tryd.prog 37 #[] w fun e w' => e = .returned (.pointer (some ⟨w.heap.size, 0, none⟩)) ∧ IsW w' w.heap.size [] ∧ Below w.heap.size w w' := by
  have hz := (zero_of_info zeroW_info).1
  have hs := zeroW_size
  have hne : ¬ zeroW = #[] := fun h => by rw [h] at hs; cases hs
  have HN : Hid _ := new_cells
  generalize zeroW = Z at *
  go_enter Tryd.func37, Tryd.ntmps37
  go_wp2
  go_ret
  refine ⟨rfl, ⟨List.replicate 64 0, by simp, rfl, ?_⟩, (Below.refl _ _).alloc (Nat.le_refl _) _⟩
  rw [HN.out]; exact heap_alloc_last _ _

/-- How many bytes a slot's string has. -/
def strSize : Value → Nat
  | .string s => s.size
  | _ => 0
theorem info_u8' : (Tryd.prog.info? 5).map (·.size) = some 1 := by kernel_rfl
theorem ext_drop (l : List UInt8) (m : Nat) : (S l).extract m (S l).size = S (l.drop m) := by
  apply ByteArray.ext
  apply Array.toList_inj.1
  rw [Lib.extract_data, S_toList, S_toList, S_size, List.take_of_length_le (by simp)]
/-- A piece that does not fill the block. -/
theorem isW_some {w : World} {b : Nat} {l x pd pd2 : List UInt8} (hpd : pd.length = 64) (htk : pd.take (l.length % 64) = l.drop (l.length / 64 * 64)) (hx : l.length % 64 + x.length < 64)
    (hp2 : pd2 = pd.take (l.length % 64) ++ x ++ pd.drop (l.length % 64 + x.length)) (hg : w.heap[b]? = some (.cells (wc (stOf l) pd2 (l.length + x.length)) 80 (0, 0))) : IsW w b (l ++ x) := by
  refine ⟨pd2, ?_, ?_, ?_⟩
  · rw [hp2]; simp; omega
  · rw [show (l ++ x).length % 64 = l.length % 64 + x.length by simp; omega, show (l ++ x).length / 64 = l.length / 64 by simp; omega, hp2, List.take_append_of_le_length (by simp; omega), List.take_of_length_le (by simp; omega), htk, List.drop_append_of_le_length (by omega)]
  · rw [stOf_some l x hx, List.length_append]; exact hg
/-- A piece that fills the block. -/
theorem isW_full {w : World} {b : Nat} {l x pd pd2 : List UInt8} (hpd : pd.length = 64) (htk : pd.take (l.length % 64) = l.drop (l.length / 64 * 64)) (hx : l.length % 64 + x.length = 64)
    (hp2 : pd2 = pd.take (l.length % 64) ++ x ++ pd.drop (l.length % 64 + x.length)) (hg : w.heap[b]? = some (.cells (wc (bhd (stOf l) pd2) pd2 (l.length + x.length)) 80 (0, 0))) : IsW w b (l ++ x) := by
  have e : pd2 = l.drop (l.length / 64 * 64) ++ x := by rw [hp2, htk, hx, show List.drop 64 pd = [] from List.drop_of_length_le (by omega), List.append_nil]
  refine ⟨pd2, ?_, ?_, ?_⟩
  · rw [hp2]; simp; omega
  · rw [show (l ++ x).length % 64 = 0 by simp; omega, List.drop_of_length_le (by simp; omega)]; rfl
  · rw [stOf_full l x hx, ← e, List.length_append]; exact hg
theorem heap_setRow_setCell {w : World} {b o : Nat} {v : Value} {cs ds : Array Value} {t : TypeId} {fr : Nat × Nat} (h : w.heap[b]? = some (.cells cs t fr)) : ((w.setRow b ds).setCell ⟨b, o, none⟩ v).heap[b]? = some (.cells (ds.setIfInBounds o v) t fr) :=
  heap_set_same (heap_setRow_same h)
theorem wc_range_st {w : World} {b : Nat} {st : Nat → W32} {pd : List UInt8} {n : Nat} {t : TypeId} {fr : Nat × Nat} (hg : w.heap[b]? = some (.cells (wc st pd n) t fr)) : w.rangeAt b 1 (cf 8 st).toList := fun j v hj => by
  rw [cell_of_row _ _ _ _ _ _ hg, ← Array.getElem?_toList, wc_list, Nat.add_comm, List.getElem?_cons_succ, List.getElem?_append_left ((List.getElem?_eq_some_iff.1 hj).1)]
  exact hj
theorem wc_range_pd {w : World} {b : Nat} {st : Nat → W32} {pd : List UInt8} {n : Nat} {t : TypeId} {fr : Nat × Nat} (hg : w.heap[b]? = some (.cells (wc st pd n) t fr)) : w.rangeAt b 9 (hv pd).toList := fun j v hj => by
  rw [cell_of_row _ _ _ _ _ _ hg, ← Array.getElem?_toList, wc_list, show 9 + j = (8 + j) + 1 by omega, List.getElem?_cons_succ, List.getElem?_append_right (by rw [cf_len]; omega), cf_len, show 8 + j - 8 = j by omega, List.getElem?_append_left ((List.getElem?_eq_some_iff.1 hj).1)]
  exact hj
set_option linter.unusedSimpArgs false in
set_option maxRecDepth 100000 in
set_option maxHeartbeats 1600000 in
theorem write_any (b : Nat) (l : List UInt8) (s : List UInt8) (w : World) (hK : TabK w) (hgb : 2 < b) (hW : IsW w b l) (hlen : l.length + s.length ≤ 1099511627776) :
    Calls Tryd.prog 38 #[.pointer (some ⟨b, 0, none⟩), .string (S s)] w fun e w' => e = .returned (.int .i64 0) ∧ IsW w' b (l ++ s) ∧ But b w w' := by
  have hc0 : w.cell? ⟨b, 0, none⟩ = some (.bool true) := by
    obtain ⟨pd, _, _, hg⟩ := hW
    rw [cell_of_row _ _ _ _ _ _ hg]; exact wc_0 _ _ _
  go_enter Tryd.func38, Tryd.ntmps38
  go_wp2_with (go_at_call 46; refine (isNone_at b true _ hc0).mono ?_; rintro e w' ⟨rfl, rfl⟩)
  clear hc0
  have HST : Hid (∃ pre post : List UInt8, s = pre ++ post ∧ Value.string (S s) = .string (S post) ∧ IsW w' b (l ++ pre) ∧ But b w' w') := ⟨[], s, rfl, rfl, by simpa using hW, But.refl _ _⟩
  clear hW
  go_loopw [1] (fun v wr => ∃ pre post : List UInt8, s = pre ++ post ∧ v = .string (S post) ∧ IsW wr b (l ++ pre) ∧ But b w' wr) (fun v _ => strSize v)
  case atStart => exact HST.out
  case round =>
    obtain ⟨pre, post, hs, rfl, hI, hbut⟩ := hrel
    clear HST
    have hKr := hK.but hbut hgb
    obtain ⟨pd, hpd, htk, hg⟩ := hI
    obtain ⟨L, hL⟩ : ∃ L : Nat, L = (l ++ pre).length := ⟨_, rfl⟩
    have hLe : L + post.length ≤ 1099511627776 := by rw [hs] at hlen; simp at hlen; rw [hL]; simp; omega
    by_cases hp : post = []
    · subst hp
      have hfin : Hid (IsW wr b (l ++ s) ∧ But b w' wr) := ⟨by rw [hs, List.append_nil]; exact ⟨pd, hpd, htk, hg⟩, hbut⟩
      clear hs hg htk hL hlen hLe hbut hKr hK
      go_wp2
      go_ret
      exact ⟨rfl, hfin.out⟩
    · have hpl : 0 < post.length := List.length_pos_iff.2 hp
      obtain ⟨at_, hat⟩ : ∃ at_ : Nat, at_ = L % 64 := ⟨_, rfl⟩
      have hat64 : at_ < 64 := by omega
      have c73 : wr.cell? ⟨b, 73, none⟩ = some (.int .u64 (L : Int)) := by
        rw [cell_of_row _ _ _ _ _ _ hg, wc_73 _ _ hpd, hL]
      have hm : (L : Int) % 64 = (at_ : Int) := by omega
      have hsz : (0 : Int) < ((S post).size : Int) := by rw [S_size]; omega
      have hszp : (S post).size = post.length := S_size _
      have i0 : (at_ : Int) ≤ 64 := by omega
      obtain ⟨m, hm0⟩ : ∃ m : Nat, Nat.min post.length (64 - at_) = m := ⟨_, rfl⟩
      have hm1 : m ≤ post.length := by rw [← hm0]; exact Nat.min_le_left _ _
      have hm2 : m ≤ 64 - at_ := by rw [← hm0]; exact Nat.min_le_right _ _
      have hm3 : 0 < m := by rw [← hm0]; exact Nat.lt_min.2 ⟨hpl, by omega⟩
      have hm4 : m = post.length ∨ m = 64 - at_ := by
        rw [← hm0]
        rcases Nat.le_total post.length (64 - at_) with h | h
        · left; exact Nat.min_eq_left h
        · right; exact Nat.min_eq_right h
      have hxl : (post.take m).length = m := by simp; omega
      obtain ⟨pd2, hpd2⟩ : ∃ pd2, pd2 = pd.take at_ ++ post.take m ++ pd.drop (at_ + m) := ⟨_, rfl⟩
      have hpd2l : pd2.length = 64 := by rw [hpd2]; simp; omega
      have hcp := run_copy_string_min (P := Tryd.prog) wr 60 9 3 5 b (9 + at_) (64 - at_) (64 - at_) post (wc (stOf (l ++ pre)) pd (l ++ pre).length) (wc (stOf (l ++ pre)) pd2 L) _ Tryd.underlying60 info_u8' hg m hm0 (by rw [wc_size _ _ hpd]; omega) (by rw [wc_copy _ (post.take m) _ at_ m hpd hxl (by omega), hpd2, hL])
      have hgo : goInt (m : Int) = .int .i64 (m : Int) := rfl
      rw [hgo] at hcp
      clear hgo
      have d73 : (wr.setRow b (wc (stOf (l ++ pre)) pd2 L)).cell? ⟨b, 73, none⟩ = some (.int .u64 (L : Int)) := by
        rw [cell_of_row _ _ _ _ _ _ (heap_setRow_same hg), wc_73 _ _ hpd2l]
      have f73 : (wr.setRow b (wc (stOf (l ++ pre)) pd2 L)).frozen? ⟨b, 73, none⟩ = false := frozen_of_row _ _ _ _ _ (heap_setRow_same hg)
      have HW3 : Hid (((wr.setRow b (wc (stOf (l ++ pre)) pd2 L)).setCell ⟨b, 73, none⟩ (.int .u64 ((L : Int) + (m : Int)))).heap[b]? = some (.cells (wc (stOf (l ++ pre)) pd2 ((l ++ pre).length + (post.take m).length)) 80 (0, 0))) := by
        show _ = _
        rw [heap_setRow_setCell hg, show (L : Int) + (m : Int) = ((L + m : Nat) : Int) by omega, wc_set73 _ _ _ hpd2l, hxl, ← hL]
      have HBut : Hid (But b w' ((wr.setRow b (wc (stOf (l ++ pre)) pd2 L)).setCell ⟨b, 73, none⟩ (.int .u64 ((L : Int) + (m : Int))))) := (hbut.setRow _).setCell _
      have hext : (S post).extract m post.length = S (post.drop m) := by rw [← hszp]; exact ext_drop post m
      have HX : Hid (s = (pre ++ post.take m) ++ post.drop m) := by show _ = _; rw [hs]; simp
      have HLL : Hid (L + m ≤ 1099511627776) := by show _ ≤ _; omega
      have b1 : (L : Int) + (m : Int) ≤ 1099511627776 := by omega
      have b2 : (m : Int) ≤ (post.length : Int) := by omega
      have b3 : (at_ : Int) + (m : Int) ≤ 64 := by omega
      have HPD : Hid (pd2 = pd.take ((l ++ pre).length % 64) ++ post.take m ++ pd.drop ((l ++ pre).length % 64 + (post.take m).length)) := by
        show _ = _; rw [hpd2, hxl, hat, hL]
      have hlx : (l ++ pre).length % 64 + (post.take m).length = at_ + m := by rw [hxl, hat, hL]
      have HMs : Hid (strSize (.string (S (post.drop m))) < strSize (.string (S post))) := by show (S _).size < (S _).size; rw [S_size, S_size]; simp; omega
      by_cases hfull : at_ + m = 64
      · have ht : (((at_ : Int) + (m : Int)) == 64) = true := beq_iff_eq.2 (by omega)
        have hI : Hid (∀ w : World, w.heap[b]? = some (.cells (wc (bhd (stOf (l ++ pre)) pd2) pd2 ((l ++ pre).length + (post.take m).length)) 80 (0, 0)) → IsW w b (l ++ (pre ++ post.take m))) := by
          show ∀ _, _
          intro w hw
          rw [← List.append_assoc]; exact isW_full hpd htk (by rw [hlx]; omega) HPD.out hw
        have HK3 : Hid (TabK ((wr.setRow b (wc (stOf (l ++ pre)) pd2 L)).setCell ⟨b, 73, none⟩ (.int .u64 ((L : Int) + (m : Int))))) := hK.but HBut.out hgb
        have HNew : Hid (((wc (stOf (l ++ pre)) pd2 ((l ++ pre).length + (post.take m).length)).toList.take 1 ++ (cf 8 (bhd (stOf (l ++ pre)) pd2)).toList ++ (wc (stOf (l ++ pre)) pd2 ((l ++ pre).length + (post.take m).length)).toList.drop (1 + (cf 8 (bhd (stOf (l ++ pre)) pd2)).size)).toArray = wc (bhd (stOf (l ++ pre)) pd2) pd2 ((l ++ pre).length + (post.take m).length)) := wc_state _ _ _ _
        have HSz : Hid ((wc (stOf (l ++ pre)) pd2 ((l ++ pre).length + (post.take m).length)).size = 74) := wc_size _ _ hpd2l
        have HBh : Hid (∀ w : World, TabK w → Calls Tryd.prog 47 #[.agg (cf 8 (stOf (l ++ pre))), .agg (hv pd2)] w fun e w' => e = .returned (.agg (cf 8 (bhd (stOf (l ++ pre)) pd2))) ∧ Below w.heap.size w w') := fun w h => behind_any _ _ w hpd2l h
        have HR1 : Hid (((wr.setRow b (wc (stOf (l ++ pre)) pd2 L)).setCell ⟨b, 73, none⟩ (.int .u64 ((L : Int) + (m : Int)))).rangeAt b 1 (cf 8 (stOf (l ++ pre))).toList) := wc_range_st HW3.out
        have HR2 : Hid (((wr.setRow b (wc (stOf (l ++ pre)) pd2 L)).setCell ⟨b, 73, none⟩ (.int .u64 ((L : Int) + (m : Int)))).rangeAt b 9 (hv pd2).toList) := wc_range_pd HW3.out
        have e1 : (Tryd.prog.info? 77).map (·.size) = some (cf 8 (stOf (l ++ pre))).size := by rw [info_w8, cf_size]
        have e2 : (Tryd.prog.info? 78).map (·.size) = some (hv pd2).size := by rw [info_b64, hv_size, hpd2l]
        have e3 : (Tryd.prog.info? 77).map (·.size) = some (cf 8 (bhd (stOf (l ++ pre)) pd2)).size := by rw [info_w8, cf_size]
        have e4 := cf_one 8 (bhd (stOf (l ++ pre)) pd2)
        have e5 : (cf 8 (bhd (stOf (l ++ pre)) pd2)).size = 8 := cf_size _ _
        have E1 : Hid _ := e1
        have E2 : Hid _ := e2
        have E3 : Hid _ := e3
        have E4 : Hid _ := e4
        have E5 : Hid _ := e5
        have hbl : b < wr.heap.size := by
          rcases Nat.lt_or_ge b wr.heap.size with h1 | h1
          · exact h1
          · rw [Array.getElem?_eq_none h1] at hg; cases hg
        have HBL : Hid (b < ((wr.setRow b (wc (stOf (l ++ pre)) pd2 L)).setCell ⟨b, 73, none⟩ (.int .u64 ((L : Int) + (m : Int)))).heap.size) := by
          show b < _; simpa [World.setCell, World.setRow] using hbl
        clear hL hg htk hat hs hlx hm0 hm4 hfull hpd2 hxl HPD hlen e1 e2 e3 e4 e5 hpd hpd2l hK hKr hbut
        generalize wc (stOf (l ++ pre)) pd2 L = C2 at *
        generalize wc (stOf (l ++ pre)) pd2 ((l ++ pre).length + (post.take m).length) = C3 at *
        generalize wc (bhd (stOf (l ++ pre)) pd2) pd2 ((l ++ pre).length + (post.take m).length) = C4 at *
        generalize cf 8 (bhd (stOf (l ++ pre)) pd2) = D4 at *
        generalize cf 8 (stOf (l ++ pre)) = D3 at *
        generalize hv pd2 = D2 at *
        generalize hP2 : S (post.drop m) = P2 at *
        have HP2 : Hid (S (post.drop m) = P2) := hP2
        clear hP2
        go_wp2
        generalize (wr.setRow b C2).setCell ⟨b, 73, none⟩ (.int .u64 ((L : Int) + (m : Int))) = W3 at *
        have HR1' : Hid (W3.drew.rangeAt b 1 D3.toList) := HR1.out
        have HR2' : Hid (W3.drew.rangeAt b 9 D2.toList) := HR2.out
        have HW3' : Hid (W3.drew.heap[b]? = some (.cells C3 80 (0, 0))) := HW3.out
        have HBut' : Hid (But b w' W3.drew) := HBut.out.drew
        have HK3' : Hid (TabK W3.drew) := HK3.out
        have HBL' : Hid (b < W3.drew.heap.size) := HBL.out
        have HD4 : Hid (D4.size = 8) := E5.out
        clear HR1 HR2 HW3 HBut HK3 HBL
        refine wp_region_any (by kernel_rfl) ?_
        change wpAny _ _ _ _ _ _ _ (World.drew _)
        generalize W3.drew = W4 at *
        refine wpAny_take (i := 0) (v := .pointer (some ⟨b, 0, none⟩)) rfl (by kernel_rfl) (by kernel_rfl) (by kernel_rfl) (fun _ _ _ h => h) (Or.inl ⟨by rfl, by intro w; go_simp⟩) ?_
        simp only [List.getElem_toArray, List.getElem_cons_succ, List.getElem_cons_zero, Act.put, List.setIfInBounds_toArray, List.set_cons_zero, List.set_cons_succ]
        refine wpAny_take (i := 1) (v := .pointer (some ⟨b, 0, none⟩)) rfl (by kernel_rfl) (by kernel_rfl) (by kernel_rfl) (fun _ _ _ h => h) (Or.inl ⟨by rfl, by intro w; go_simp⟩) ?_
        simp only [List.getElem_toArray, List.getElem_cons_succ, List.getElem_cons_zero, Act.put, List.setIfInBounds_toArray, List.set_cons_zero, List.set_cons_succ]
        refine wpAny_take (i := 2) (v := .pointer (some ⟨b, 0, none⟩)) rfl (by kernel_rfl) (by kernel_rfl) (by kernel_rfl) (fun _ _ _ h => h) (Or.inl ⟨by rfl, by intro w; go_simp⟩) ?_
        simp only [List.getElem_toArray, List.getElem_cons_succ, List.getElem_cons_zero, Act.put, List.setIfInBounds_toArray, List.set_cons_zero, List.set_cons_succ]
        refine wpAny_take (i := 3) (v := .pointer (some ⟨b, 1, none⟩)) rfl (by kernel_rfl) (by kernel_rfl) (by kernel_rfl) (fun _ _ _ h => h) (Or.inl ⟨by rfl, by intro w; go_simp⟩) ?_
        simp only [List.getElem_toArray, List.getElem_cons_succ, List.getElem_cons_zero, Act.put, List.setIfInBounds_toArray, List.set_cons_zero, List.set_cons_succ]
        refine wpAny_take (i := 5) (v := .pointer (some ⟨b, 0, none⟩)) rfl (by kernel_rfl) (by kernel_rfl) (by kernel_rfl) (fun _ _ _ h => h) (Or.inl ⟨by rfl, by intro w; go_simp⟩) ?_
        simp only [List.getElem_toArray, List.getElem_cons_succ, List.getElem_cons_zero, Act.put, List.setIfInBounds_toArray, List.set_cons_zero, List.set_cons_succ]
        refine wpAny_take (i := 6) (v := .pointer (some ⟨b, 0, none⟩)) rfl (by kernel_rfl) (by kernel_rfl) (by kernel_rfl) (fun _ _ _ h => h) (Or.inl ⟨by rfl, by intro w; go_simp⟩) ?_
        simp only [List.getElem_toArray, List.getElem_cons_succ, List.getElem_cons_zero, Act.put, List.setIfInBounds_toArray, List.set_cons_zero, List.set_cons_succ]
        refine wpAny_take (i := 7) (v := .pointer (some ⟨b, 9, none⟩)) rfl (by kernel_rfl) (by kernel_rfl) (by kernel_rfl) (fun _ _ _ h => h) (Or.inl ⟨by rfl, by intro w; go_simp⟩) ?_
        simp only [List.getElem_toArray, List.getElem_cons_succ, List.getElem_cons_zero, Act.put, List.setIfInBounds_toArray, List.set_cons_zero, List.set_cons_succ]
        refine wpAny_ready (rs := [4, 8]) (by kernel_rfl) (by simp) ?_
        refine AllReady.cons (by simp only [List.getElem?_toArray, List.getElem?_cons_succ, List.getElem?_cons_zero]; rfl) (fun K hK => ?_) (AllReady.cons (by simp only [List.getElem?_toArray, List.getElem?_cons_succ, List.getElem?_cons_zero]; rfl) (fun K hK => ?_) AllReady.nil)
        · refine step_plain rfl (wp_load_mid 77 _ rfl b 1 rfl D3.toList _ HR1'.out Tryd.underlying77 rfl (by rw [E1.out, Array.length_toList]) ?_)
          refine hK _ _ ?_
          clear hK K
          simp only [List.getElem_toArray, List.getElem_cons_succ, List.getElem_cons_zero, Act.put, List.setIfInBounds_toArray, List.set_cons_zero, List.set_cons_succ]
          refine wpAny_ready (rs := [8]) (by kernel_rfl) (by simp) ?_
          refine AllReady.cons (by simp only [List.getElem?_toArray, List.getElem?_cons_succ, List.getElem?_cons_zero]; rfl) (fun K hK => ?_) AllReady.nil
          refine step_plain rfl (wp_load_mid 78 _ rfl b 9 rfl D2.toList _ HR2'.out Tryd.underlying78 rfl (by rw [E2.out, Array.length_toList]) ?_)
          refine hK _ _ ?_
          clear hK K
          simp only [List.getElem_toArray, List.getElem_cons_succ, List.getElem_cons_zero, Act.put, List.setIfInBounds_toArray, List.set_cons_zero, List.set_cons_succ]
          refine wpAny_ready (rs := [9]) (by kernel_rfl) (by simp) ?_
          refine AllReady.cons (by simp only [List.getElem?_toArray, List.getElem?_cons_succ, List.getElem?_cons_zero]; rfl) (fun K hK => ?_) AllReady.nil
          refine step_plain rfl ?_
          go_simp
          refine (HBh.out _ HK3'.out).mono ?_
          rintro e w5 ⟨rfl, b5⟩
          refine hK _ _ ?_
          clear hK K
          try simp only [List.getElem_toArray, List.getElem_cons_succ, List.getElem_cons_zero, Act.put, List.setIfInBounds_toArray, List.set_cons_zero, List.set_cons_succ]
          have HG5 : Hid (w5.heap[b]? = some (.cells C3 80 (0, 0))) := by show _ = _; rw [b5.block b HBL'.out]; exact HW3'.out
          have HI5 : Hid (IsW (w5.setRow b C4) b (l ++ (pre ++ post.take m))) := hI.out _ (heap_setRow_same HG5.out)
          have HB5 : Hid (But b w' (w5.setRow b C4)) := (HBut'.out.trans (But.of_below b5)).setRow _
          refine wpAny_take (i := 10) (v := .pointer (some ⟨b, 0, none⟩)) rfl (by kernel_rfl) (by kernel_rfl) (by kernel_rfl) (fun _ _ _ h => h) (Or.inl ⟨by rfl, by intro w; go_simp⟩) ?_
          simp only [List.getElem_toArray, List.getElem_cons_succ, List.getElem_cons_zero, Act.put, List.setIfInBounds_toArray, List.set_cons_zero, List.set_cons_succ]
          refine wpAny_take (i := 11) (v := .pointer (some ⟨b, 1, none⟩)) rfl (by kernel_rfl) (by kernel_rfl) (by kernel_rfl) (fun _ _ _ h => h) (Or.inl ⟨by rfl, by intro w; go_simp⟩) ?_
          simp only [List.getElem_toArray, List.getElem_cons_succ, List.getElem_cons_zero, Act.put, List.setIfInBounds_toArray, List.set_cons_zero, List.set_cons_succ]
          refine wpAny_ready (rs := [12]) (by kernel_rfl) (by simp) ?_
          refine AllReady.cons (by simp only [List.getElem?_toArray, List.getElem?_cons_succ, List.getElem?_cons_zero]; rfl) (fun K hK => ?_) AllReady.nil
          refine step_plain rfl (wp_store_midR 77 _ _ rfl b 1 D4 C3 C4 _ rfl rfl HG5.out (by rw [HD4.out, HSz.out]; decide) E3.out E4.out HNew.out ?_)
          refine hK _ _ ?_
          clear hK K
          simp only [List.getElem_toArray, List.getElem_cons_succ, List.getElem_cons_zero, Act.put, List.setIfInBounds_toArray, List.set_cons_zero, List.set_cons_succ]
          refine wpAny_done (by kernel_rfl) ?_ _
          go_wp2
          go_roundw
          case rel =>
            first
            | exact ⟨pre ++ post.take m, post.drop m, HX.out, by rw [HP2.out], HI5.out, HB5.out⟩
            | ((repeat apply Exists.intro); exact ⟨⟨pre ++ post.take m, post.drop m, HX.out, by rw [HP2.out], HI5.out, HB5.out⟩, rfl⟩)
          case measure => exact HMs.out
        · refine step_plain rfl (wp_load_mid 78 _ rfl b 9 rfl D2.toList _ HR2'.out Tryd.underlying78 rfl (by rw [E2.out, Array.length_toList]) ?_)
          refine hK _ _ ?_
          clear hK K
          simp only [List.getElem_toArray, List.getElem_cons_succ, List.getElem_cons_zero, Act.put, List.setIfInBounds_toArray, List.set_cons_zero, List.set_cons_succ]
          refine wpAny_ready (rs := [4]) (by kernel_rfl) (by simp) ?_
          refine AllReady.cons (by simp only [List.getElem?_toArray, List.getElem?_cons_succ, List.getElem?_cons_zero]; rfl) (fun K hK => ?_) AllReady.nil
          refine step_plain rfl (wp_load_mid 77 _ rfl b 1 rfl D3.toList _ HR1'.out Tryd.underlying77 rfl (by rw [E1.out, Array.length_toList]) ?_)
          refine hK _ _ ?_
          clear hK K
          simp only [List.getElem_toArray, List.getElem_cons_succ, List.getElem_cons_zero, Act.put, List.setIfInBounds_toArray, List.set_cons_zero, List.set_cons_succ]
          refine wpAny_ready (rs := [9]) (by kernel_rfl) (by simp) ?_
          refine AllReady.cons (by simp only [List.getElem?_toArray, List.getElem?_cons_succ, List.getElem?_cons_zero]; rfl) (fun K hK => ?_) AllReady.nil
          refine step_plain rfl ?_
          go_simp
          refine (HBh.out _ HK3'.out).mono ?_
          rintro e w5 ⟨rfl, b5⟩
          refine hK _ _ ?_
          clear hK K
          try simp only [List.getElem_toArray, List.getElem_cons_succ, List.getElem_cons_zero, Act.put, List.setIfInBounds_toArray, List.set_cons_zero, List.set_cons_succ]
          have HG5 : Hid (w5.heap[b]? = some (.cells C3 80 (0, 0))) := by show _ = _; rw [b5.block b HBL'.out]; exact HW3'.out
          have HI5 : Hid (IsW (w5.setRow b C4) b (l ++ (pre ++ post.take m))) := hI.out _ (heap_setRow_same HG5.out)
          have HB5 : Hid (But b w' (w5.setRow b C4)) := (HBut'.out.trans (But.of_below b5)).setRow _
          refine wpAny_take (i := 10) (v := .pointer (some ⟨b, 0, none⟩)) rfl (by kernel_rfl) (by kernel_rfl) (by kernel_rfl) (fun _ _ _ h => h) (Or.inl ⟨by rfl, by intro w; go_simp⟩) ?_
          simp only [List.getElem_toArray, List.getElem_cons_succ, List.getElem_cons_zero, Act.put, List.setIfInBounds_toArray, List.set_cons_zero, List.set_cons_succ]
          refine wpAny_take (i := 11) (v := .pointer (some ⟨b, 1, none⟩)) rfl (by kernel_rfl) (by kernel_rfl) (by kernel_rfl) (fun _ _ _ h => h) (Or.inl ⟨by rfl, by intro w; go_simp⟩) ?_
          simp only [List.getElem_toArray, List.getElem_cons_succ, List.getElem_cons_zero, Act.put, List.setIfInBounds_toArray, List.set_cons_zero, List.set_cons_succ]
          refine wpAny_ready (rs := [12]) (by kernel_rfl) (by simp) ?_
          refine AllReady.cons (by simp only [List.getElem?_toArray, List.getElem?_cons_succ, List.getElem?_cons_zero]; rfl) (fun K hK => ?_) AllReady.nil
          refine step_plain rfl (wp_store_midR 77 _ _ rfl b 1 D4 C3 C4 _ rfl rfl HG5.out (by rw [HD4.out, HSz.out]; decide) E3.out E4.out HNew.out ?_)
          refine hK _ _ ?_
          clear hK K
          simp only [List.getElem_toArray, List.getElem_cons_succ, List.getElem_cons_zero, Act.put, List.setIfInBounds_toArray, List.set_cons_zero, List.set_cons_succ]
          refine wpAny_done (by kernel_rfl) ?_ _
          go_wp2
          go_roundw
          case rel =>
            first
            | exact ⟨pre ++ post.take m, post.drop m, HX.out, by rw [HP2.out], HI5.out, HB5.out⟩
            | ((repeat apply Exists.intro); exact ⟨⟨pre ++ post.take m, post.drop m, HX.out, by rw [HP2.out], HI5.out, HB5.out⟩, rfl⟩)
          case measure => exact HMs.out
      · have ht : (((at_ : Int) + (m : Int)) == 64) = false := beq_eq_false_iff_ne.2 (by omega)
        have hI : Hid (IsW ((wr.setRow b (wc (stOf (l ++ pre)) pd2 L)).setCell ⟨b, 73, none⟩ (.int .u64 ((L : Int) + (m : Int)))) b (l ++ (pre ++ post.take m))) := by
          show IsW _ _ _
          rw [← List.append_assoc]; exact isW_some hpd htk (by rw [hlx]; omega) HPD.out HW3.out
        clear hL hg htk hat hs hlx hm0 hm4 hfull hpd2 hxl HPD HW3 hlen
        generalize wc (stOf (l ++ pre)) pd2 L = C2 at *
        generalize hP2 : S (post.drop m) = P2 at *
        have HP2 : Hid (S (post.drop m) = P2) := hP2
        clear hP2
        go_wp2
        go_roundw
        case rel => exact ⟨pre ++ post.take m, post.drop m, HX.out, by rw [HP2.out], hI.out, HBut.out⟩
        case measure => exact HMs.out
end Go.Proofs.YtficmbaffkkfhaaDoor
