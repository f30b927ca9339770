/- What a proof leads to, as the document has it (layer 11). -/
import Derived.Test.YtficmbaffkkfhaaDoor11p
namespace Go.Proofs.YtficmbaffkkfhaaDoor
open Go.RowKit

theorem ld_one {x : List UInt8} {i : Nat} {P : List (List UInt8)} : ldH x i 1 P = if P.length = 0 then some x else none := by
  have h : bes i 0 1 = [] := bes_one (by omega)
  unfold ldH
  rw [h]
  rfl
theorem ld_empty {x : List UInt8} {i n : Nat} (h2 : 2 ≤ n) : ldH x i n [] = none := by
  refine if_neg fun h => ?_
  by_cases hk : i < 0 + splitN (n - 0)
  · rw [bes_left (by omega) hk, List.length_append] at h; simp at h
  · rw [bes_right (by omega) hk, List.length_append] at h; simp at h
theorem ld_left {x h : List UInt8} {i n k : Nat} {Q : List (List UInt8)} (h2 : 2 ≤ n) (hk : splitN n = k) (hi : i < k) : ldH x i n (Q ++ [h]) = (ldH x i k Q).map (fun y => nodeL y h) := by
  obtain ⟨s1, s2, -⟩ := split_ok h2
  subst hk
  obtain ⟨f, rfl⟩ : ∃ f, n = f + 1 := ⟨n - 1, by omega⟩
  rw [← ld_eq (f := f + 1) x _ (Nat.le_refl _) (by omega), ← ld_eq (f := f) x Q (by omega) hi, ldF, if_neg (by omega), List.getLast?_append, List.getLast?_singleton, List.dropLast_concat]
  simp only [Option.some_or]
  rw [if_pos hi]
theorem ld_right {x h : List UInt8} {i n k : Nat} {Q : List (List UInt8)} (h2 : 2 ≤ n) (hk : splitN n = k) (hi : ¬ i < k) (hin : i < n) : ldH x i n (Q ++ [h]) = (ldH x (i - k) (n - k) Q).map (fun y => nodeL h y) := by
  obtain ⟨s1, s2, -⟩ := split_ok h2
  subst hk
  obtain ⟨f, rfl⟩ : ∃ f, n = f + 1 := ⟨n - 1, by omega⟩
  rw [← ld_eq (f := f + 1) x _ (Nat.le_refl _) hin, ← ld_eq (f := f) x Q (by omega) (by omega), ldF, if_neg (by omega), List.getLast?_append, List.getLast?_singleton, List.dropLast_concat]
  simp only [Option.some_or]
  rw [if_neg hi]
theorem results_ct {P : Program} {fn : Func} {p u : Tmp} {ty : TypeId} (h : fn.results = #[.cell p ty, .tmp u]) (tmps : Array Value) (W : World) (g n : Nat) (t e : TypeId) (cs : Array Value) (fr : Nat × Nat)
    (hp : tmps.getD p undef = .pointer (some ⟨g, 0, none⟩)) (hg : W.heap[g]? = some (.cells cs t fr)) (hu : P.underlying ty = some (.array n e)) (hi : (P.info? ty).map (·.size) = some n) (hn : cs.size = n) :
    (results fn tmps).run P W = .ok (.tuple #[.agg cs, tmps.getD u undef]) W := by
  have hl := run_loadVar_row (P := P) W g t ty cs fr _ hg hu rfl (by rw [hi, hn])
  have hp' : tmps[p]?.getD undef = .pointer (some ⟨g, 0, none⟩) := by simpa using hp
  simp only [results, h]
  simp [Result.andThen, hp', asAddr, hl]
theorem zero_32 : (padTo 32 []).length = 32 := padTo_length (by decide)
/-- What is told of a proof. -/
def LdS (x : List UInt8) (i n : Nat) (P : List (List UInt8)) (w : World) (e : Ending) (w' : World) : Prop := ∃ y, e = .returned (.tuple #[.agg (hv y), .bool (ldH x i n P).isSome]) ∧ y.length = 32 ∧ (∀ z, ldH x i n P = some z → y = z) ∧ Below w.heap.size w w'
set_option maxRecDepth 100000 in
set_option maxHeartbeats 4000000 in
set_option linter.unusedSimpArgs false in
set_option linter.unusedVariables false in
theorem rleads_one {w : World} {a : Option Addr} {c m i : Nat} {x : List UInt8} {P : List (List UInt8)} (hm : P.length = m) (hx : x.length = 32) : Calls Tryd.prog 26 #[.agg (hv x), .int .i64 (i : Int), .int .i64 1, .slice a m c] w (LdS x i 1 P w) := by
  obtain ⟨w1, hw1⟩ : ∃ w1, w.alloc (.cells (hv x) 23) = w1 := ⟨_, rfl⟩
  have b1 : Below w.heap.size w w1 := by rw [← hw1]; exact (Below.refl _ _).alloc (Nat.le_refl _) _
  have hs1 : w1.heap.size = w.heap.size + 1 := by rw [← hw1, World.size_alloc]
  obtain ⟨w2, hw2, b2, g2⟩ := hash_box w1
  have g1 : w2.heap[w.heap.size]? = some (.cells (hv x) 23 (0, 0)) := (b2.block _ (by omega)).trans (by rw [← hw1]; exact heap_alloc_last w _)
  have B2 : Below w.heap.size w w2 := b1.trans (b2.mono (by omega))
  have HF : Hid (Below w.heap.size w (w2.setRow (w.heap.size + 1) (hv x)) ∧ (w2.setRow (w.heap.size + 1) (hv x)).heap[w.heap.size + 1]? = some (.cells (hv x) 23 (0, 0))) := ⟨below_setRow B2 (by omega) _, by rw [hs1] at g2; exact heap_setRow_same g2⟩
  have r1 := range_row g1
  have hxs : (hv x).size = 32 := by rw [hv_size, hx]
  have icx : Hid ((Tryd.prog.info? 23).map (·.size) = some (hv x).toList.length) := by show _ = _; rw [info_h32, Array.length_toList, hxs]
  have hx1 := hv_one x
  have hzs := hz_size
  have HE : Hid ((ldH x i 1 P).isSome = ((m : Int) == 0) ∧ ∀ z, ldH x i 1 P = some z → x = z) := by
    rw [ld_one, hm]
    by_cases h : m = 0
    · subst h; exact ⟨rfl, fun z hz => by simpa using hz⟩
    · rw [if_neg h]
      refine ⟨?_, fun z hz => by cases hz⟩
      symm
      rw [Option.isSome_none, beq_eq_false_iff_ne]
      omega
  rw [hs1] at g2
  rw [zero_h32] at hw2 g2 hzs
  have hzx := hzs.trans hxs.symm
  have HX32 : Hid (x.length = 32) := hx
  clear hm b1 b2 B2 g1 hx
  unfold LdS
  generalize hX : hv x = X at *
  have HX : Hid (hv x = X) := hX
  clear hX
  go_enter Tryd.func26, Tryd.ntmps26
  go_wp2_with (first | (refine wpList_load_mid rfl 23 _ rfl w.heap.size 0 rfl X.toList _ r1 Tryd.underlying23 rfl icx.out ?_) | (refine wpList_store_row rfl 23 _ _ rfl (w.heap.size + 1) X rfl rfl _ _ g2 (by rw [info_h32, hxs]) hzx hx1 ?_) | fail)
  refine bodyPost_ret (v := .tuple #[.agg X, .bool ((m : Int) == 0)]) (results_ct (p := 8) (u := 9) Tryd.results26 _ _ (w.heap.size + 1) 32 23 5 X (0, 0) rfl HF.out.2 Tryd.underlying23 info_h32 hxs) rfl ⟨x, ?_, HX32.out, HE.out.2, HF.out.1⟩
  rw [HX.out, HE.out.1]
set_option maxRecDepth 100000 in
set_option maxHeartbeats 4000000 in
set_option linter.unusedSimpArgs false in
set_option linter.unusedVariables false in
theorem rleads_empty {w : World} {a : Option Addr} {c i n : Nat} {x : List UInt8} (h2 : 2 ≤ n) (hx : x.length = 32) : Calls Tryd.prog 26 #[.agg (hv x), .int .i64 (i : Int), .int .i64 (n : Int), .slice a 0 c] w (LdS x i n [] w) := by
  obtain ⟨w1, hw1⟩ : ∃ w1, w.alloc (.cells (hv x) 23) = w1 := ⟨_, rfl⟩
  have b1 : Below w.heap.size w w1 := by rw [← hw1]; exact (Below.refl _ _).alloc (Nat.le_refl _) _
  have hs1 : w1.heap.size = w.heap.size + 1 := by rw [← hw1, World.size_alloc]
  obtain ⟨w2, hw2, b2, g2⟩ := hash_box w1
  have B2 : Below w.heap.size w w2 := b1.trans (b2.mono (by omega))
  rw [hs1] at g2
  have HF : Hid (Below w.heap.size w (w2.setRow (w.heap.size + 1) (hv (padTo 32 []))) ∧ (w2.setRow (w.heap.size + 1) (hv (padTo 32 []))).heap[w.heap.size + 1]? = some (.cells (hv (padTo 32 [])) 23 (0, 0))) := ⟨below_setRow B2 (by omega) _, heap_setRow_same g2⟩
  have hz1 := hv_one (padTo 32 [])
  have hzs := hz_size
  have HE : Hid (ldH x i n [] = none) := ld_empty h2
  have hn1 : ((n : Int) == 1) = false := by rw [beq_eq_false_iff_ne]; omega
  rw [zero_h32] at hw2 g2 hzs hz1
  clear b1 b2 B2 hx h2
  unfold LdS
  generalize hv x = X at *
  go_enter Tryd.func26, Tryd.ntmps26
  go_wp2_with (first | (refine wpList_store_row rfl 23 _ _ rfl (w.heap.size + 1) #[.int .u8 0, .int .u8 0, .int .u8 0, .int .u8 0, .int .u8 0, .int .u8 0, .int .u8 0, .int .u8 0, .int .u8 0, .int .u8 0, .int .u8 0, .int .u8 0, .int .u8 0, .int .u8 0, .int .u8 0, .int .u8 0, .int .u8 0, .int .u8 0, .int .u8 0, .int .u8 0, .int .u8 0, .int .u8 0, .int .u8 0, .int .u8 0, .int .u8 0, .int .u8 0, .int .u8 0, .int .u8 0, .int .u8 0, .int .u8 0, .int .u8 0, .int .u8 0] rfl rfl _ _ g2 (by rw [info_h32, hzs]) rfl hz1 ?_) | fail)
  refine bodyPost_ret (v := .tuple #[.agg (hv (padTo 32 [])), .bool false]) (results_ct (p := 8) (u := 9) Tryd.results26 _ _ (w.heap.size + 1) 32 23 5 (hv (padTo 32 [])) (0, 0) rfl HF.out.2 Tryd.underlying23 info_h32 hz_size) rfl ⟨padTo 32 [], ?_, zero_32, fun z hz => (by rw [HE.out] at hz; cases hz), HF.out.1⟩
  rw [HE.out]
  rfl
set_option maxRecDepth 100000 in
set_option maxHeartbeats 8000000 in
set_option linter.unusedSimpArgs false in
set_option linter.unusedVariables false in
/-- One hash more: what the others lead to is asked, and one node made. -/
theorem rleads_more {w : World} {c i n k d b o i2 n2 : Nat} {x h : List UInt8} {Q : List (List UInt8)} (hn : 2 ≤ n) (hn63 : n < 9223372036854775808) (hk : splitN n = k) (hin : i < n) (hx : x.length = 32) (hR : TabR w) (hA : HsAt w (.slice (some ⟨b, o, none⟩) (d + 1) c) (Q ++ [h])) (hQ : Q.length = d) (hc : d + 1 ≤ c) (hd : d ≤ 1000)
    (h2 : i2 = (if i < k then i else i - k) ∧ n2 = (if i < k then k else n - k))
    (hI : ∀ W, Below w.heap.size w W → Calls Tryd.prog 26 #[.agg (hv x), .int .i64 (i2 : Int), .int .i64 (n2 : Int), .slice (some ⟨b, o, none⟩) d c] W (LdS x i2 n2 Q W)) :
    Calls Tryd.prog 26 #[.agg (hv x), .int .i64 (i : Int), .int .i64 (n : Int), .slice (some ⟨b, o, none⟩) (d + 1) c] w (LdS x i n (Q ++ [h]) w) := by
  obtain ⟨m, hmd⟩ : ∃ m, d + 1 = m := ⟨_, rfl⟩
  rw [hmd] at hA hc ⊢
  obtain ⟨s1, s2, -⟩ := split_ok hn
  rw [hk] at s1 s2
  have HS : Hid (∀ W, Calls Tryd.prog 23 #[.int .i64 (n : Int)] W fun e w' => e = .returned (.int .i64 (k : Int)) ∧ w' = W) := fun W => by
    have := rsplit_any (n : Int) W (by omega) (by omega)
    rwa [splitZ_nat, hk] at this
  have hh32 : h.length = 32 := hA.len h (by simp)
  have HRh : Hid (∀ W, Below w.heap.size w W → W.rangeAt b (o + d * 32) (hv h).toList) := fun W hW => by
    obtain ⟨-, b', o', e, hr⟩ := hA.cells.2 d h (by rw [List.getElem?_append_right (by omega), hQ, Nat.sub_self]; rfl)
    simp at e
    obtain ⟨rfl, rfl⟩ := e
    exact hr W hW
  obtain ⟨w1, hw1⟩ : ∃ w1, w.alloc (.cells (hv x) 23) = w1 := ⟨_, rfl⟩
  have b1 : Below w.heap.size w w1 := by rw [← hw1]; exact (Below.refl _ _).alloc (Nat.le_refl _) _
  have hs1 : w1.heap.size = w.heap.size + 1 := by rw [← hw1, World.size_alloc]
  obtain ⟨w2, hw2, b2, g2⟩ := hash_box w1
  rw [hs1] at g2
  have hs2 : w2.heap.size = w.heap.size + 1 + 1 := by rw [← hw2, World.size_alloc, hs1]
  have g1 : w2.heap[w.heap.size]? = some (.cells (hv x) 23 (0, 0)) := (b2.block _ (by omega)).trans (by rw [← hw1]; exact heap_alloc_last w _)
  have B2 : Hid (Below w.heap.size w w2) := b1.trans (b2.mono (by omega))
  have HG : Hid (w2.heap[w.heap.size]? = some (.cells (hv x) 23 (0, 0)) ∧ w2.heap[w.heap.size + 1]? = some (.cells (hv (padTo 32 [])) 23 (0, 0))) := ⟨g1, g2⟩
  have hxs : (hv x).size = 32 := by rw [hv_size, hx]
  have hhs : (hv h).size = 32 := by rw [hv_size, hh32]
  have icx : Hid ((Tryd.prog.info? 23).map (·.size) = some (hv x).toList.length) := by show _ = _; rw [info_h32, Array.length_toList, hxs]
  have ich : Hid ((Tryd.prog.info? 23).map (·.size) = some (hv h).toList.length) := by show _ = _; rw [info_h32, Array.length_toList, hhs]
  have hh1 := hv_one h
  have hn1 : ((n : Int) == 1) = false := by rw [beq_eq_false_iff_ne]; omega
  have hd1 : ((m : Int) == 0) = false := by rw [beq_eq_false_iff_ne]; omega
  have hwd : Hid (IntKind.i64.wrap ((m : Int) - 1) = (d : Int)) := by show _ = _; rw [IntKind.wrap_i64]; omega
  have hkd : (0 : Int) ≤ (d : Int) := by omega
  have hkc : (d : Int) ≤ (c : Int) := by omega
  have hkc2 : d ≤ c := by omega
  have hkl : (d : Int) < (m : Int) := by omega
  have HX2 : Hid (Below w2.heap.size w2 w2) := Below.refl _ _
  have HZb : Hid (∀ W : World, ∃ W', W.alloc (.cells (hv (padTo 32 [])) 23) = W' ∧ Below W.heap.size W W' ∧ W'.heap[W.heap.size]? = some (.cells (hv (padTo 32 [])) 23 (0, 0))) := hash_box
  have hz32 := hz_size
  rw [zero_h32] at HZb hz32
  have HR : Hid (∀ W, Below w.heap.size w W → TabR W) := fun W hW => hR.below hW hR.lt
  have HI : Hid (∀ W, Below w.heap.size w W → Calls Tryd.prog 26 #[.agg (hv x), .int .i64 (i2 : Int), .int .i64 (n2 : Int), .slice (some ⟨b, o, none⟩) d c] W (LdS x i2 n2 Q W)) := hI
  have HIN : Hid (k < n ∧ i < n ∧ splitN n = k ∧ 2 ≤ n ∧ h.length = 32 ∧ n < 9223372036854775808) := ⟨s2, hin, hk, hn, hh32, hn63⟩
  clear hmd hI hR hA hx hh32 b1 b2 g1 g2 s1 s2 hk hn hn63 hin hc hd hQ
  generalize hX : hv x = X at *
  generalize hH : hv h = H at *
  have HXH : Hid (hv x = X ∧ hv h = H) := ⟨hX, hH⟩
  clear hX hH
  rw [zero_h32] at hw2
  go_enter Tryd.func26, Tryd.ntmps26
  go_wp2_with fail
  refine (HS.out _).mono ?_
  rintro e w' ⟨rfl, rfl⟩
  clear HS
  go_upto_region 6 with fail
  refine wp_region_held (S := Below w'.heap.size w') (by kernel_rfl) ?_
  change wpAnyH _ _ _ _ _ _ _ _ (World.drew _)
  have HX : Below w'.heap.size w' w'.drew := HX2.out.drew
  clear HX2
  generalize World.drew _ = y0 at *
  refine wpAnyH_take (i := 0) (v := .slice (some ⟨b, o, none⟩) m c) rfl (by kernel_rfl) (by kernel_rfl) (by kernel_rfl) (fun _ _ _ h => h) (Or.inl ⟨by rfl, by intro w9 _; go_simp⟩) HX ?_
  simp only [List.getElem_toArray, List.getElem_cons_succ, List.getElem_cons_zero, Act.put, List.setIfInBounds_toArray, List.set_cons_zero, List.set_cons_succ]
  refine wpAnyH_take (i := 1) (v := .slice (some ⟨b, o, none⟩) m c) rfl (by kernel_rfl) (by kernel_rfl) (by kernel_rfl) (fun _ _ _ h => h) (Or.inl ⟨by rfl, by intro w9 _; go_simp⟩) HX ?_
  simp only [List.getElem_toArray, List.getElem_cons_succ, List.getElem_cons_zero, Act.put, List.setIfInBounds_toArray, List.set_cons_zero, List.set_cons_succ]
  refine wpAnyH_take (i := 2) (v := .int .i64 (m : Int)) rfl (by kernel_rfl) (by kernel_rfl) (by kernel_rfl) (fun _ _ _ h => h) (Or.inl ⟨by rfl, by intro w9 _; go_simp⟩) HX ?_
  simp only [List.getElem_toArray, List.getElem_cons_succ, List.getElem_cons_zero, Act.put, List.setIfInBounds_toArray, List.set_cons_zero, List.set_cons_succ]
  refine wpAnyH_take (i := 3) (v := .int .i64 (d : Int)) rfl (by kernel_rfl) (by kernel_rfl) (by kernel_rfl) (fun _ _ _ h => h) (Or.inl ⟨by rfl, by intro w9 _; have q9 := hwd.out; go_simp⟩) HX ?_
  simp only [List.getElem_toArray, List.getElem_cons_succ, List.getElem_cons_zero, Act.put, List.setIfInBounds_toArray, List.set_cons_zero, List.set_cons_succ]
  refine wpAnyH_take (i := 4) (v := .slice (some ⟨b, o, none⟩) d c) rfl (by kernel_rfl) (by kernel_rfl) (by kernel_rfl) (fun _ _ _ h => h) (Or.inl ⟨by rfl, by intro w9 _; go_simp⟩) HX ?_
  simp only [List.getElem_toArray, List.getElem_cons_succ, List.getElem_cons_zero, Act.put, List.setIfInBounds_toArray, List.set_cons_zero, List.set_cons_succ]
  refine wpAnyH_take (i := 5) (v := .slice (some ⟨b, o, none⟩) m c) rfl (by kernel_rfl) (by kernel_rfl) (by kernel_rfl) (fun _ _ _ h => h) (Or.inl ⟨by rfl, by intro w9 _; go_simp⟩) HX ?_
  simp only [List.getElem_toArray, List.getElem_cons_succ, List.getElem_cons_zero, Act.put, List.setIfInBounds_toArray, List.set_cons_zero, List.set_cons_succ]
  refine wpAnyH_take (i := 6) (v := .slice (some ⟨b, o, none⟩) m c) rfl (by kernel_rfl) (by kernel_rfl) (by kernel_rfl) (fun _ _ _ h => h) (Or.inl ⟨by rfl, by intro w9 _; go_simp⟩) HX ?_
  simp only [List.getElem_toArray, List.getElem_cons_succ, List.getElem_cons_zero, Act.put, List.setIfInBounds_toArray, List.set_cons_zero, List.set_cons_succ]
  refine wpAnyH_take (i := 7) (v := .int .i64 (m : Int)) rfl (by kernel_rfl) (by kernel_rfl) (by kernel_rfl) (fun _ _ _ h => h) (Or.inl ⟨by rfl, by intro w9 _; go_simp⟩) HX ?_
  simp only [List.getElem_toArray, List.getElem_cons_succ, List.getElem_cons_zero, Act.put, List.setIfInBounds_toArray, List.set_cons_zero, List.set_cons_succ]
  refine wpAnyH_take (i := 8) (v := .int .i64 (d : Int)) rfl (by kernel_rfl) (by kernel_rfl) (by kernel_rfl) (fun _ _ _ h => h) (Or.inl ⟨by rfl, by intro w9 _; have q9 := hwd.out; go_simp⟩) HX ?_
  simp only [List.getElem_toArray, List.getElem_cons_succ, List.getElem_cons_zero, Act.put, List.setIfInBounds_toArray, List.set_cons_zero, List.set_cons_succ]
  refine wpAnyH_take (i := 9) (v := .pointer (some ⟨b, o + d * 32, none⟩)) rfl (by kernel_rfl) (by kernel_rfl) (by kernel_rfl) (fun _ _ _ h => h) (Or.inl ⟨by rfl, by intro w9 _; go_simp⟩) HX ?_
  simp only [List.getElem_toArray, List.getElem_cons_succ, List.getElem_cons_zero, Act.put, List.setIfInBounds_toArray, List.set_cons_zero, List.set_cons_succ]
  refine wpAnyH_take (i := 10) (v := .agg H) rfl (by kernel_rfl) (by kernel_rfl) (by kernel_rfl) (fun _ _ _ h => h) (yieldsIf_load_mid (by rfl) 23 _ rfl b (o + d * 32) rfl H.toList _ (fun w9 h9 => HRh.out w9 (B2.out.trans (h9.mono B2.out.size))) Tryd.underlying23 rfl ich.out) HX ?_
  simp only [List.getElem_toArray, List.getElem_cons_succ, List.getElem_cons_zero, Act.put, List.setIfInBounds_toArray, List.set_cons_zero, List.set_cons_succ]
  refine wpAnyH_ready (rs := [11]) (by kernel_rfl) (by simp) (AllReadyH.cons (by simp only [List.getElem?_toArray, List.getElem?_cons_succ, List.getElem?_cons_zero]; rfl) (fun K hK => ?_) AllReadyH.nil)
  refine step_want (by rfl) ?_
  go_simp
  obtain ⟨y1, hw, bc, gq⟩ := HZb.out y0
  have hgw : w'.heap.size ≤ y0.heap.size := HX.size
  have HX : Below w'.heap.size w' y1 := HX.trans (bc.mono HX.size)
  obtain ⟨g, hg⟩ : ∃ g, y0.heap.size = g := ⟨_, rfl⟩
  rw [hg] at gq hgw
  rw [hw, hg]
  clear bc hw hg
  refine hK.out _ _ HX (fun _ => ?_)
  clear hK K
  try simp only [List.getElem_toArray, List.getElem_cons_succ, List.getElem_cons_zero, Act.put, List.setIfInBounds_toArray, List.set_cons_zero, List.set_cons_succ]
  refine wpAnyH_take (i := 12) (v := .slice (some ⟨b, o, none⟩) d c) rfl (by kernel_rfl) (by kernel_rfl) (by kernel_rfl) (fun _ _ _ h => h) (Or.inl ⟨by rfl, by intro w9 _; go_simp⟩) HX ?_
  simp only [List.getElem_toArray, List.getElem_cons_succ, List.getElem_cons_zero, Act.put, List.setIfInBounds_toArray, List.set_cons_zero, List.set_cons_succ]
  refine wpAnyH_ready (rs := [13]) (by kernel_rfl) (by simp) (AllReadyH.cons (by simp only [List.getElem?_toArray, List.getElem?_cons_succ, List.getElem?_cons_zero]; rfl) (fun K hK => ?_) AllReadyH.nil)
  refine step_want (by rfl) ?_
  refine wp_store_row 23 _ _ rfl g H rfl rfl _ _ gq (by rw [info_h32, hhs]) (by rw [hz32, hhs]) hh1 ?_
  have HX : Below w'.heap.size w' (y1.setRow g H) := below_setRow HX hgw _
  have gq := heap_setRow_same (ds := H) gq
  generalize y1.setRow g H = y2 at *
  refine hK.out _ _ HX (fun _ => ?_)
  clear hK K
  try simp only [List.getElem_toArray, List.getElem_cons_succ, List.getElem_cons_zero, Act.put, List.setIfInBounds_toArray, List.set_cons_zero, List.set_cons_succ]
  refine wpAnyH_done (by kernel_rfl) ?_ _
  have HY : Hid (Below w'.heap.size w' y2 ∧ y2.heap[g]? = some (.cells H 23 (0, 0)) ∧ w'.heap.size ≤ g) := ⟨HX, gq, hgw⟩
  have g2x := (HX.block _ (Array.getElem?_eq_some_iff.1 HG.out.1).1).trans HG.out.1
  have rx := range_row g2x
  clear HX gq hgw g2x
  by_cases hik : i < k
  · have kik : (i : Int) < (k : Int) := by omega
    have hwi : Hid (wrap64 ((i : Int) - (k : Int)) = ((i - k : Nat) : Int) ∨ i < k) := by
      by_cases h9 : i < k
      · exact .inr h9
      · refine .inl ?_
        have := HIN.out
        unfold wrap64
        omega
    have hwn' : Hid (wrap64 ((n : Int) - (k : Int)) = ((n - k : Nat) : Int)) := by show _ = _; have := HIN.out; unfold wrap64; omega
    have hI2 : i2 = i ∧ n2 = k := by rw [h2.1, h2.2, if_pos hik, if_pos hik]; exact ⟨rfl, rfl⟩
    have HEq : Hid (ldH x i n (Q ++ [h]) = (ldH x i k Q).map (fun y => nodeL y h)) := ld_left HIN.out.2.2.2.1 HIN.out.2.2.1 hik
    have HIx := HI.out y2 (B2.out.trans (HY.out.1.mono B2.out.size))
    rw [hI2.1, hI2.2] at HIx
    have HI3 : Hid (Calls Tryd.prog 26 #[.agg X, .int .i64 ((i : Nat) : Int), .int .i64 ((k : Nat) : Int), .slice (some ⟨b, o, none⟩) d c] y2 (LdS x i k Q y2)) := HIx
    have HE2 : Hid (i2 = i ∧ n2 = k) := hI2
    clear HIx hI2
    go_wp2_with (first | (refine wpList_load_mid rfl 23 _ rfl w.heap.size 0 rfl X.toList _ rx Tryd.underlying23 rfl icx.out ?_) | fail)
    refine HI3.out.mono ?_
    rintro e w5 ⟨y, rfl, hy32, hyz, b5⟩
    obtain ⟨w6, hw6, b6, g6⟩ := HZb.out w5
    obtain ⟨w7, hw7⟩ : ∃ w7, w6.setRow w5.heap.size (hv y) = w7 := ⟨_, rfl⟩
    have b57 : Below w5.heap.size w5 w7 := by rw [← hw7]; exact below_setRow b6 (Nat.le_refl _) _
    have g7 : w7.heap[w5.heap.size]? = some (.cells (hv y) 23 (0, 0)) := by rw [← hw7]; exact heap_setRow_same g6
    have b27 : Below y2.heap.size y2 w7 := b5.trans (b57.mono b5.size)
    have gh : w7.heap[g]? = some (.cells H 23 (0, 0)) := (b27.block _ (Array.getElem?_eq_some_iff.1 HY.out.2.1).1).trans HY.out.2.1
    have bw7 : Below w'.heap.size w' w7 := HY.out.1.trans (b27.mono HY.out.1.size)
    have HB7 : Hid (Below w.heap.size w w7) := B2.out.trans (bw7.mono B2.out.size)
    have gz0 := HG.out.2
    rw [zero_h32] at gz0
    have gz := (bw7.block _ (Array.getElem?_eq_some_iff.1 gz0).1).trans gz0
    have rY := range_row g7
    have rH := range_row gh
    have hys : (hv y).size = 32 := by rw [hv_size, hy32]
    have icy : Hid ((Tryd.prog.info? 23).map (·.size) = some (hv y).toList.length) := by show _ = _; rw [info_h32, Array.length_toList, hys]
    have hy1 := hv_one y
    have hzy := hz32.trans hys.symm
    have HNd : Hid (Calls Tryd.prog 36 #[.agg (hv y), .agg H] w7 fun e w'' => e = .returned (.agg (hv (nodeL y h))) ∧ Below w7.heap.size w7 w'') := by
      have h5 := rnode_any y h w7 (HR.out w7 HB7.out) hy32 HIN.out.2.2.2.2.1
      rwa [HXH.out.2] at h5
    have hns : (hv (nodeL y h)).size = 32 := by rw [hv_size]; exact shaL_length _
    have hnd1 := hv_one (nodeL y h)
    have hzn := hz32.trans hns.symm
    have HFin : Hid (∀ z, ldH x i n (Q ++ [h]) = some z → nodeL y h = z) := fun z hz => by
      rw [HEq.out] at hz
      cases hq : ldH x i k Q with
      | none => rw [hq] at hz; cases hz
      | some z' =>
        rw [hq] at hz
        obtain rfl := hyz z' hq
        exact Option.some.inj hz
    have HSo : Hid ((ldH x i k Q).isSome = (ldH x i n (Q ++ [h])).isSome) := by show _ = _; rw [HEq.out, Option.isSome_map]
    rw [HSo.out]
    obtain ⟨bb, hbb⟩ : ∃ bb, (ldH x i n (Q ++ [h])).isSome = bb := ⟨_, rfl⟩
    have HBb : Hid ((ldH x i n (Q ++ [h])).isSome = bb) := hbb
    rw [hbb]
    obtain ⟨ND, hND⟩ : ∃ ND, hv (nodeL y h) = ND := ⟨_, rfl⟩
    have HND : Hid (hv (nodeL y h) = ND) := hND
    rw [hND] at HNd hns hnd1 hzn
    clear hbb hND hyz b6 b57 g7 b27 gh gz0 HSo rx
    generalize hv y = Y at *
    go_wp2_with (first | (refine wpList_store_row rfl 23 _ _ rfl w5.heap.size Y rfl rfl _ _ g6 (by rw [info_h32, hys]) hzy hy1 ?_) | (refine wpList_load_mid rfl 23 (.tmp 13) rfl w5.heap.size 0 rfl Y.toList _ rY Tryd.underlying23 rfl icy.out ?_) | (refine wpList_load_mid rfl 23 (.tmp 12) rfl g 0 rfl H.toList _ rH Tryd.underlying23 rfl ich.out ?_) | fail)
    refine HNd.out.mono ?_
    rintro e w8 ⟨rfl, b8⟩
    have gz8 := (b8.block _ (Array.getElem?_eq_some_iff.1 gz).1).trans gz
    have HF : Hid (Below w.heap.size w (w8.setRow (w.heap.size + 1) ND) ∧ (w8.setRow (w.heap.size + 1) ND).heap[w.heap.size + 1]? = some (.cells ND 23 (0, 0))) := ⟨below_setRow (HB7.out.trans (b8.mono HB7.out.size)) (by omega) _, heap_setRow_same gz8⟩
    clear HNd b8 gz rY rH hw6 hw7
    go_wp2_with (first | (refine wpList_store_row rfl 23 _ _ rfl (w.heap.size + 1) ND rfl rfl _ _ gz8 (by rw [info_h32, hns]) hzn hnd1 ?_) | fail)
    refine bodyPost_ret (v := .tuple #[.agg ND, .bool bb]) (results_ct (p := 8) (u := 9) Tryd.results26 _ _ (w.heap.size + 1) 32 23 5 ND (0, 0) rfl HF.out.2 Tryd.underlying23 info_h32 hns) rfl ⟨nodeL y h, by rw [HND.out, HBb.out], shaL_length _, HFin.out, HF.out.1⟩
  · have kik : ¬ (i : Int) < (k : Int) := by omega
    have hwi : Hid (wrap64 ((i : Int) - (k : Int)) = ((i - k : Nat) : Int) ∨ i < k) := by
      by_cases h9 : i < k
      · exact .inr h9
      · refine .inl ?_
        have := HIN.out
        unfold wrap64
        omega
    have hwn' : Hid (wrap64 ((n : Int) - (k : Int)) = ((n - k : Nat) : Int)) := by show _ = _; have := HIN.out; unfold wrap64; omega
    have hI2 : i2 = (i - k) ∧ n2 = (n - k) := by rw [h2.1, h2.2, if_neg hik, if_neg hik]; exact ⟨rfl, rfl⟩
    have HEq : Hid (ldH x i n (Q ++ [h]) = (ldH x (i - k) (n - k) Q).map (fun y => nodeL h y)) := ld_right HIN.out.2.2.2.1 HIN.out.2.2.1 hik HIN.out.2.1
    have HIx := HI.out y2 (B2.out.trans (HY.out.1.mono B2.out.size))
    rw [hI2.1, hI2.2] at HIx
    have HI3 : Hid (Calls Tryd.prog 26 #[.agg X, .int .i64 (((i - k) : Nat) : Int), .int .i64 (((n - k) : Nat) : Int), .slice (some ⟨b, o, none⟩) d c] y2 (LdS x (i - k) (n - k) Q y2)) := HIx
    have HE2 : Hid (i2 = (i - k) ∧ n2 = (n - k)) := hI2
    clear HIx hI2
    have hwi' : Hid (wrap64 ((i : Int) - (k : Int)) = ((i - k : Nat) : Int)) := hwi.out.resolve_right hik
    go_wp2_with (first | (simp only [hwi'.out, hwn'.out]) | (refine wpList_load_mid rfl 23 _ rfl w.heap.size 0 rfl X.toList _ rx Tryd.underlying23 rfl icx.out ?_) | fail)
    refine HI3.out.mono ?_
    rintro e w5 ⟨y, rfl, hy32, hyz, b5⟩
    obtain ⟨w6, hw6, b6, g6⟩ := HZb.out w5
    obtain ⟨w7, hw7⟩ : ∃ w7, w6.setRow w5.heap.size (hv y) = w7 := ⟨_, rfl⟩
    have b57 : Below w5.heap.size w5 w7 := by rw [← hw7]; exact below_setRow b6 (Nat.le_refl _) _
    have g7 : w7.heap[w5.heap.size]? = some (.cells (hv y) 23 (0, 0)) := by rw [← hw7]; exact heap_setRow_same g6
    have b27 : Below y2.heap.size y2 w7 := b5.trans (b57.mono b5.size)
    have gh : w7.heap[g]? = some (.cells H 23 (0, 0)) := (b27.block _ (Array.getElem?_eq_some_iff.1 HY.out.2.1).1).trans HY.out.2.1
    have bw7 : Below w'.heap.size w' w7 := HY.out.1.trans (b27.mono HY.out.1.size)
    have HB7 : Hid (Below w.heap.size w w7) := B2.out.trans (bw7.mono B2.out.size)
    have gz0 := HG.out.2
    rw [zero_h32] at gz0
    have gz := (bw7.block _ (Array.getElem?_eq_some_iff.1 gz0).1).trans gz0
    have rY := range_row g7
    have rH := range_row gh
    have hys : (hv y).size = 32 := by rw [hv_size, hy32]
    have icy : Hid ((Tryd.prog.info? 23).map (·.size) = some (hv y).toList.length) := by show _ = _; rw [info_h32, Array.length_toList, hys]
    have hy1 := hv_one y
    have hzy := hz32.trans hys.symm
    have HNd : Hid (Calls Tryd.prog 36 #[.agg H, .agg (hv y)] w7 fun e w'' => e = .returned (.agg (hv (nodeL h y))) ∧ Below w7.heap.size w7 w'') := by
      have h5 := rnode_any h y w7 (HR.out w7 HB7.out) HIN.out.2.2.2.2.1 hy32
      rwa [HXH.out.2] at h5
    have hns : (hv (nodeL h y)).size = 32 := by rw [hv_size]; exact shaL_length _
    have hnd1 := hv_one (nodeL h y)
    have hzn := hz32.trans hns.symm
    have HFin : Hid (∀ z, ldH x i n (Q ++ [h]) = some z → nodeL h y = z) := fun z hz => by
      rw [HEq.out] at hz
      cases hq : ldH x (i - k) (n - k) Q with
      | none => rw [hq] at hz; cases hz
      | some z' =>
        rw [hq] at hz
        obtain rfl := hyz z' hq
        exact Option.some.inj hz
    have HSo : Hid ((ldH x (i - k) (n - k) Q).isSome = (ldH x i n (Q ++ [h])).isSome) := by show _ = _; rw [HEq.out, Option.isSome_map]
    rw [HSo.out]
    obtain ⟨bb, hbb⟩ : ∃ bb, (ldH x i n (Q ++ [h])).isSome = bb := ⟨_, rfl⟩
    have HBb : Hid ((ldH x i n (Q ++ [h])).isSome = bb) := hbb
    rw [hbb]
    obtain ⟨ND, hND⟩ : ∃ ND, hv (nodeL h y) = ND := ⟨_, rfl⟩
    have HND : Hid (hv (nodeL h y) = ND) := hND
    rw [hND] at HNd hns hnd1 hzn
    clear hbb hND hyz b6 b57 g7 b27 gh gz0 HSo rx
    generalize hv y = Y at *
    go_wp2_with (first | (refine wpList_store_row rfl 23 _ _ rfl w5.heap.size Y rfl rfl _ _ g6 (by rw [info_h32, hys]) hzy hy1 ?_) | (refine wpList_load_mid rfl 23 (.tmp 15) rfl w5.heap.size 0 rfl Y.toList _ rY Tryd.underlying23 rfl icy.out ?_) | (refine wpList_load_mid rfl 23 (.tmp 12) rfl g 0 rfl H.toList _ rH Tryd.underlying23 rfl ich.out ?_) | fail)
    refine HNd.out.mono ?_
    rintro e w8 ⟨rfl, b8⟩
    have gz8 := (b8.block _ (Array.getElem?_eq_some_iff.1 gz).1).trans gz
    have HF : Hid (Below w.heap.size w (w8.setRow (w.heap.size + 1) ND) ∧ (w8.setRow (w.heap.size + 1) ND).heap[w.heap.size + 1]? = some (.cells ND 23 (0, 0))) := ⟨below_setRow (HB7.out.trans (b8.mono HB7.out.size)) (by omega) _, heap_setRow_same gz8⟩
    clear HNd b8 gz rY rH hw6 hw7
    go_wp2_with (first | (refine wpList_store_row rfl 23 _ _ rfl (w.heap.size + 1) ND rfl rfl _ _ gz8 (by rw [info_h32, hns]) hzn hnd1 ?_) | fail)
    refine bodyPost_ret (v := .tuple #[.agg ND, .bool bb]) (results_ct (p := 8) (u := 9) Tryd.results26 _ _ (w.heap.size + 1) 32 23 5 ND (0, 0) rfl HF.out.2 Tryd.underlying23 info_h32 hns) rfl ⟨nodeL h y, by rw [HND.out, HBb.out], shaL_length _, HFin.out, HF.out.1⟩
theorem rleads_upto {x : List UInt8} (hx : x.length = 32) (N : Nat) : ∀ (P : List (List UInt8)) (i n : Nat) (a : Option Addr) (c : Nat) (w : World), P.length ≤ N → N ≤ 1000 → i < n → n < 9223372036854775808 → TabR w → HsAt w (.slice a P.length c) P → P.length ≤ c →
    Calls Tryd.prog 26 #[.agg (hv x), .int .i64 (i : Int), .int .i64 (n : Int), .slice a P.length c] w (LdS x i n P w) := by
  induction N with
  | zero =>
    intro P i n a c w hN hM hin hn hR hA hc
    obtain rfl : P = [] := List.length_eq_zero_iff.1 (by omega)
    by_cases h1 : n = 1
    · subst h1
      exact rleads_one rfl hx
    · exact rleads_empty (by omega) hx
  | succ N ih =>
    intro P i n a c w hN hM hin hn hR hA hc
    by_cases h1 : n = 1
    · subst h1
      exact rleads_one rfl hx
    · rcases List.eq_nil_or_concat P with rfl | ⟨Q, h, rfl⟩
      · exact rleads_empty (by omega) hx
      · rw [List.concat_eq_append] at *
        have hl : (Q ++ [h]).length = Q.length + 1 := by rw [List.length_append, List.length_singleton]
        obtain ⟨z, hz⟩ : ∃ z, (Q ++ [h])[0]? = some z := ⟨_, List.getElem?_eq_getElem (by omega)⟩
        obtain ⟨-, b, o, rfl, -⟩ := hA.cells.2 0 z hz
        rw [hl] at hA hc hN ⊢
        obtain ⟨s1, s2, -⟩ := split_ok (n := n) (by omega)
        refine rleads_more (i2 := if i < splitN n then i else i - splitN n) (n2 := if i < splitN n then splitN n else n - splitN n) (by omega) hn rfl hin hx hR hA rfl hc (by omega) ⟨rfl, rfl⟩ fun W hW => ?_
        have hT := (hA.below hW).take Q.length (by omega)
        rw [List.take_left] at hT
        refine ih Q _ _ _ c W (by omega) (by omega) ?_ ?_ (hR.below hW hR.lt) hT (by omega)
        · split <;> omega
        · split <;> omega
end Go.Proofs.YtficmbaffkkfhaaDoor
