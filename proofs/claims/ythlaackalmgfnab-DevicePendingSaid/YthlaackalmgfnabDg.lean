/- Contract of a device's crash. -/
import Derived.Test.YthlaackalmgfnabDf
import Derived.Deep.RegionHeld3
namespace Go.Proofs.Ythlaackalmgfnab
open Go.RowKit

theorem met_wr (C : Array Value) (n : Nat) (w : World) : (method (n + 1) 90 (.agg C) "sealingwax/device.place").run Try.prog w = .ok (69, .agg C) w := by
  kernel_rfl
theorem met_er (C : Array Value) (n : Nat) (w : World) : (method (n + 1) 92 (.agg C) "sealingwax/device.place").run Try.prog w = .ok (70, .agg C) w := by
  kernel_rfl
theorem act_place (y : Ac) : ∃ T V F, acV y = .iface T V ∧ (∀ (n : Nat) (w : World), (method (n + 1) T V "sealingwax/device.place").run Try.prog w = .ok (F, V) w) ∧ (∀ w : World, (callFunc F #[V]).run Try.prog w = .ok (.enter F #[V]) w) ∧ ∀ w : World, Calls Try.prog F #[V] w fun e w' => e = .returned (.int .i64 (y.at_ : Int)) ∧ Below w.heap.size w w' := by
  rcases y with ⟨⟨i, g⟩ | i⟩
  · refine ⟨90, _, 69, rfl, met_wr _, fun w => ?_, place_wr i g⟩
    generalize ((.int .i64 (i : Int) :: (hv (txt g)).toList).toArray) = C
    go_simp
  · refine ⟨92, _, 70, rfl, met_er _, fun w => ?_, place_er i⟩
    go_simp
set_option maxRecDepth 100000 in
set_option linter.unusedSimpArgs false in
set_option maxHeartbeats 1600000 in
theorem crash_at {w : World} {p : Nat} {d : Dv} {O : Nat → Prop} {a b ca cb : Nat} {cv fv kv kq : Value} {k : List Int} (h : DevAt w p d O a b ca cb cv fv kv) (hk : IntsAt w kq k) (hkb : k ≠ [] → ∀ i, kq.ownBlock = some i → i < w.heap.size → i ≠ a ∧ i ≠ b) :
    Calls Try.prog 38 #[.pointer (some ⟨p, 0, none⟩), kq] w fun e w' => e = .returned (.tuple #[]) ∧ Dev w' p (crashD d k) O ∧ Turn O w w' := by
  have hOp : O p := (h.own p (by simp [blocks])).1
  have hOa : O a := (h.own a (by simp [blocks])).1
  have hOb : O b := (h.own b (by simp [blocks])).1
  obtain ⟨n1, n2, n3, n4, n5, n6⟩ := nodup_mem h.nodup
  obtain ⟨-, -, c2, -⟩ := h.c
  obtain ⟨x, c, rfl⟩ : ∃ x c, cv = .slice x d.acts.length c := by
    rcases h.acts.2 with ⟨h1, h2⟩ | ⟨g, cap, cur, h1, _⟩
    · exact ⟨none, 0, by rw [h1, h2]⟩
    · exact ⟨_, _, h1⟩
  have hA : d.acts.length ≤ 9223372036854775807 := by
    rcases h.acts.2 with ⟨h1, h2⟩ | ⟨g, cap, cur, h1, _, _, h4, h5, _⟩
    · omega
    · have : maxLen ≤ 9223372036854775807 := by decide
      omega
  obtain ⟨ka, kc, rfl, hk⟩ := hk
  have HST : Hid (InCr w p d O a b ca cb (.slice x d.acts.length c) fv kv k 0 w) := ⟨h, Turn.refl _ _⟩
  have HX : Hid (∀ m y, d.acts[m]? = some y → ∃ g, x = some ⟨g, 0, none⟩ ∧ ∀ wr : World, wr.ownsRow 0 79 1 (.slice x d.acts.length c) d.acts.length (d.acts.map acV) → wr.cell? ⟨g, m, none⟩ = some (acV y)) := fun m y hy => by
    have hm := (List.getElem?_eq_some_iff.1 hy).1
    rcases h.acts.2 with ⟨h1, h2⟩ | ⟨g, cap, cur, h1, _⟩
    · omega
    · obtain ⟨rfl, -, -⟩ : x = some ⟨g, 0, none⟩ ∧ True ∧ True := by simp at h1; exact ⟨h1.1, trivial, trivial⟩
      refine ⟨g, rfl, fun wr hw => ?_⟩
      rcases hw.2 with ⟨h1, h2⟩ | ⟨g', cap', cur', h1', _, h2, _, _, _, h6⟩
      · simp at h1
      · obtain rfl : g = g' := by simp at h1'; exact h1'.1
        have e : (d.acts.map acV)[m]? = some (acV y) := by rw [List.getElem?_map, hy]; rfl
        rw [cell_of_row _ _ _ _ _ _ h2, ← Array.getElem?_toList]
        rw [← h6, List.getElem?_take] at e
        simpa [hm] using e
  have hL : Hid (∀ m, m < d.acts.length → ∃ y, d.acts[m]? = some y ∧ y.at_ < d.sure.length) := fun m hm => ⟨_, List.getElem?_eq_getElem hm, h.inr _ (List.getElem_mem hm)⟩
  have HKC : Hid (∀ (m : Nat) (wr : World), m < k.length → Turn (fun i => i = a ∨ i = b) w wr → ∃ kb ko, ka = some ⟨kb, ko, none⟩ ∧ wr.cell? ⟨kb, ko + m, none⟩ = some (.int .i64 (k.getD m 0))) := fun m wr hm ht => by
    obtain ⟨kb, ko, rfl, hc⟩ := hk m k[m] (List.getElem?_eq_getElem hm)
    have b1 : kb < w.heap.size := World.block_lt_of_cell? w _ hc
    obtain ⟨b2, b3⟩ := hkb (fun e => by rw [e] at hm; exact absurd hm (Nat.not_lt_zero _)) kb rfl b1
    refine ⟨kb, ko, rfl, ?_⟩
    rw [World.cell?_of_block (ht.block kb b1 (by intro e; rcases e with e | e; exact b2 e; exact b3 e)), hc, List.getD_eq_getElem?_getD, List.getElem?_eq_getElem hm]
    rfl
  have HAC : Hid (d.acts.length = d.acts.length) := rfl
  have hcr : Hid (crashD d k = { ({ d with sure := (crashN d.sure d.told d.acts k d.acts.length).1, told := (crashN d.sure d.told d.acts k d.acts.length).2 } : Dv) with acts := [], up := false, fail := none }) := rfl
  clear h hk hkb n4 n5 n6
  go_enter Try.func38, Try.ntmps38
  go_wp2
  go_loopw [13] (fun i wr => ∃ m : Nat, m ≤ d.acts.length ∧ i = .int .i64 m ∧ InCr w p d O a b ca cb (.slice x d.acts.length c) fv kv k m wr) (fun i _ => d.acts.length - (intOf i).toNat)
  case atStart => exact ⟨0, by omega, rfl, HST.out⟩
  case round =>
    obtain ⟨m, hm, rfl, hI⟩ := hrel
    clear HST c2
    by_cases hlt : m < d.acts.length
    · obtain ⟨y, hy, hyl⟩ := hL.out m hlt
      obtain ⟨g, rfl, hg⟩ := HX.out m y hy
      have HDV : Hid _ := hI.dev
      have HTU : Hid _ := hI.turn
      obtain ⟨c0, c1, -, -, -, -⟩ := hI.dev.c
      have cg := hg wr (by have := hI.dev.acts; exact this)
      have hl1 := (crashN_len d.sure d.told d.acts k m).1
      have hl2 := (crashN_len d.sure d.told d.acts k m).2
      obtain ⟨B, hB⟩ : ∃ B, (crashN d.sure d.told d.acts k m).1[y.at_]? = some B := ⟨_, List.getElem?_eq_getElem (by rw [hl1]; exact hyl)⟩
      have hBd : (crashN d.sure d.told d.acts k m).1.getD y.at_ blank = B := by rw [List.getD_eq_getElem?_getD, hB]; rfl
      have HSU : Hid _ := crashN_succ d.sure d.told d.acts k m y hy (keptB B y (k.getD m 0)) (by rw [hBd])
      obtain ⟨T, V, F, hV, hM, hCF, hP⟩ := act_place y
      have HKP : Hid (∀ (n : Int) (w : World), Calls Try.prog 49 #[.agg (bc B).toArray, .iface T V, .int .i64 n] w fun e w' => e = .returned (.agg (bc (keptB B y n)).toArray) ∧ Below w.heap.size w w') := fun n w => by rw [← hV]; exact kept_any B y n w
      rw [hV] at cg
      have HP : Hid _ := hP
      obtain ⟨i, hi⟩ : ∃ i, i = y.at_ := ⟨_, rfl⟩
      rw [← hi] at hP HP hB hyl HSU
      obtain ⟨n, hn⟩ : ∃ n, d.sure.length = n := ⟨_, rfl⟩
      clear hI hP hV hBd hg hl2 hi
      by_cases hkl : m < k.length
      · obtain ⟨kb, ko, rfl, ck⟩ := HKC.out m wr hkl HTU.out
        obtain ⟨q, hq⟩ : ∃ q, q = k.getD m 0 := ⟨_, rfl⟩
        rw [← hq] at ck HSU
        have hkl2 : (m : Int) < (k.length : Int) := by omega
        clear hq hkl
        generalize k.length = kl at *
        go_wp2_with fail
        refine (HP.out _).mono ?_
        rintro e w1 ⟨rfl, b1⟩
        have D1 : Hid _ := (HDV.out.below b1).drew
        have HT1 : Hid (Turn (fun i => i = a ∨ i = b) w w1.drew) := (HTU.out.then_below b1).drew
        obtain ⟨c0, c1, -⟩ := D1.out.c
        have hin : i < n := by rw [← hn]; exact hyl
        have hin2 : (i : Int) < (n : Int) := by omega
        rw [hl1, hn] at c0 c1
        have HS : w1.drew.cell? ⟨p, 0, none⟩ = some (.slice (some ⟨a, 0, none⟩) n ca) := c0
        have HRg : Hid (w1.drew.rangeAt a (i * 129) (bc B).toArray.toList) := D1.out.rangeS i B hB
        have HIB : Hid ((Try.prog.info? 57).map (·.size) = some (bc B).toArray.toList.length) := by show _ = _; rw [info_bk]; simp
        obtain ⟨Y, hY⟩ : ∃ Y, keptB B y q = Y := ⟨_, rfl⟩
        rw [hY] at HSU
        obtain ⟨X, hX⟩ : ∃ X, (bc Y).toArray = X := ⟨_, rfl⟩
        have HKq : Hid (∀ w : World, Calls Try.prog 49 #[.agg (bc B).toArray, .iface T V, .int .i64 q] w fun e w' => e = .returned (.agg X) ∧ Below w.heap.size w w') := by rw [← hX, ← hY]; exact HKP.out q
        have HXi : Hid ((Try.prog.info? 57).map (·.size) = some X.size) := by show _ = _; rw [info_bk, ← hX, bcA_size]
        have HX1 : Hid (X.all (·.oneCell') = true) := by rw [← hX]; exact bcA_one _
        have HXl : Hid ((Try.prog.info? 57).map (·.size) = some X.toList.length) := by show _ = _; rw [info_bk, ← hX]; simp
        have HXY : Hid ((bc Y).toArray = X) := hX
        clear c0 c1 ck hM hCF b1 hY HKP hX
        generalize (bc B).toArray = BC at *
        go_wp2_with fail
        refine wp_region_held (S := fun w' => w'.cell? ⟨p, 0, none⟩ = some (.slice (some ⟨a, 0, none⟩) n ca)) (by kernel_rfl) ?_
        change wpAnyH _ _ _ _ _ _ _ _ (World.drew _)
        generalize w1.drew = W1 at *
        refine wpAnyH_take (i := 0) (v := .pointer (some ⟨p, 0, none⟩)) rfl (by kernel_rfl) (by kernel_rfl) (by kernel_rfl) (fun _ _ _ h => h) (Or.inl ⟨by rfl, by intro w _; go_simp⟩) HS ?_
        simp only [List.getElem_toArray, List.getElem_cons_succ, List.getElem_cons_zero, Act.put, List.setIfInBounds_toArray, List.set_cons_zero, List.set_cons_succ]
        refine wpAnyH_take (i := 1) (v := .pointer (some ⟨p, 0, none⟩)) rfl (by kernel_rfl) (by kernel_rfl) (by kernel_rfl) (fun _ _ _ h => h) (Or.inl ⟨by rfl, by intro w _; go_simp⟩) HS ?_
        simp only [List.getElem_toArray, List.getElem_cons_succ, List.getElem_cons_zero, Act.put, List.setIfInBounds_toArray, List.set_cons_zero, List.set_cons_succ]
        refine wpAnyH_take (i := 2) (v := .pointer (some ⟨p, 0, none⟩)) rfl (by kernel_rfl) (by kernel_rfl) (by kernel_rfl) (fun _ _ _ h => h) (Or.inl ⟨by rfl, by intro w _; go_simp⟩) HS ?_
        simp only [List.getElem_toArray, List.getElem_cons_succ, List.getElem_cons_zero, Act.put, List.setIfInBounds_toArray, List.set_cons_zero, List.set_cons_succ]
        refine wpAnyH_take (i := 3) (v := .slice (some ⟨a, 0, none⟩) n ca) rfl (by kernel_rfl) (by kernel_rfl) (by kernel_rfl) (fun _ _ _ h => h) (Or.inl ⟨by rfl, by intro w hw; have hw : w.cell? ⟨p, 0, none⟩ = some (.slice (some ⟨a, 0, none⟩) n ca) := hw; go_simp⟩) HS ?_
        simp only [List.getElem_toArray, List.getElem_cons_succ, List.getElem_cons_zero, Act.put, List.setIfInBounds_toArray, List.set_cons_zero, List.set_cons_succ]
        refine wpAnyH_take (i := 4) (v := .int .i64 (i : Int)) rfl (by kernel_rfl) (by kernel_rfl) (by kernel_rfl) (fun _ _ _ h => h) (Or.inl ⟨by rfl, by intro w _; go_simp⟩) HS ?_
        simp only [List.getElem_toArray, List.getElem_cons_succ, List.getElem_cons_zero, Act.put, List.setIfInBounds_toArray, List.set_cons_zero, List.set_cons_succ]
        refine wpAnyH_take (i := 5) (v := .pointer (some ⟨p, 0, none⟩)) rfl (by kernel_rfl) (by kernel_rfl) (by kernel_rfl) (fun _ _ _ h => h) (Or.inl ⟨by rfl, by intro w _; go_simp⟩) HS ?_
        simp only [List.getElem_toArray, List.getElem_cons_succ, List.getElem_cons_zero, Act.put, List.setIfInBounds_toArray, List.set_cons_zero, List.set_cons_succ]
        refine wpAnyH_take (i := 6) (v := .pointer (some ⟨p, 0, none⟩)) rfl (by kernel_rfl) (by kernel_rfl) (by kernel_rfl) (fun _ _ _ h => h) (Or.inl ⟨by rfl, by intro w _; go_simp⟩) HS ?_
        simp only [List.getElem_toArray, List.getElem_cons_succ, List.getElem_cons_zero, Act.put, List.setIfInBounds_toArray, List.set_cons_zero, List.set_cons_succ]
        refine wpAnyH_take (i := 7) (v := .pointer (some ⟨p, 0, none⟩)) rfl (by kernel_rfl) (by kernel_rfl) (by kernel_rfl) (fun _ _ _ h => h) (Or.inl ⟨by rfl, by intro w _; go_simp⟩) HS ?_
        simp only [List.getElem_toArray, List.getElem_cons_succ, List.getElem_cons_zero, Act.put, List.setIfInBounds_toArray, List.set_cons_zero, List.set_cons_succ]
        refine wpAnyH_take (i := 8) (v := .slice (some ⟨a, 0, none⟩) n ca) rfl (by kernel_rfl) (by kernel_rfl) (by kernel_rfl) (fun _ _ _ h => h) (Or.inl ⟨by rfl, by intro w hw; have hw : w.cell? ⟨p, 0, none⟩ = some (.slice (some ⟨a, 0, none⟩) n ca) := hw; go_simp⟩) HS ?_
        simp only [List.getElem_toArray, List.getElem_cons_succ, List.getElem_cons_zero, Act.put, List.setIfInBounds_toArray, List.set_cons_zero, List.set_cons_succ]
        refine wpAnyH_take (i := 9) (v := .int .i64 (i : Int)) rfl (by kernel_rfl) (by kernel_rfl) (by kernel_rfl) (fun _ _ _ h => h) (Or.inl ⟨by rfl, by intro w _; go_simp⟩) HS ?_
        simp only [List.getElem_toArray, List.getElem_cons_succ, List.getElem_cons_zero, Act.put, List.setIfInBounds_toArray, List.set_cons_zero, List.set_cons_succ]
        refine wpAnyH_take (i := 10) (v := .pointer (some ⟨a, i * 129, none⟩)) rfl (by kernel_rfl) (by kernel_rfl) (by kernel_rfl) (fun _ _ _ h => h) (Or.inl ⟨by rfl, by intro w _; go_simp⟩) HS ?_
        simp only [List.getElem_toArray, List.getElem_cons_succ, List.getElem_cons_zero, Act.put, List.setIfInBounds_toArray, List.set_cons_zero, List.set_cons_succ]
        refine wpAnyH_take (i := 12) (v := .iface T V) rfl (by kernel_rfl) (by kernel_rfl) (by kernel_rfl) (fun _ _ _ h => h) (Or.inl ⟨by rfl, by intro w _; go_simp⟩) HS ?_
        simp only [List.getElem_toArray, List.getElem_cons_succ, List.getElem_cons_zero, Act.put, List.setIfInBounds_toArray, List.set_cons_zero, List.set_cons_succ]
        refine wpAnyH_take (i := 13) (v := .int .i64 q) rfl (by kernel_rfl) (by kernel_rfl) (by kernel_rfl) (fun _ _ _ h => h) (Or.inl ⟨by rfl, by intro w _; go_simp⟩) HS ?_
        simp only [List.getElem_toArray, List.getElem_cons_succ, List.getElem_cons_zero, Act.put, List.setIfInBounds_toArray, List.set_cons_zero, List.set_cons_succ]
        refine wpAnyH_ready (rs := [11]) (by kernel_rfl) (by simp) (AllReadyH.cons (by simp only [List.getElem?_toArray, List.getElem?_cons_succ, List.getElem?_cons_zero]; rfl) (fun K hK => ?_) AllReadyH.nil)
        refine step_plain rfl (wp_load_mid 57 _ rfl a (i * 129) rfl BC.toList _ HRg.out Try.underlying57 rfl HIB.out ?_)
        refine hK.out _ _ HS (fun _ => ?_)
        clear hK K
        try simp only [List.getElem_toArray, List.getElem_cons_succ, List.getElem_cons_zero, Act.put, List.setIfInBounds_toArray, List.set_cons_zero, List.set_cons_succ]
        refine wpAnyH_ready (rs := [14]) (by kernel_rfl) (by simp) (AllReadyH.cons (by simp only [List.getElem?_toArray, List.getElem?_cons_succ, List.getElem?_cons_zero]; rfl) (fun K hK => ?_) AllReadyH.nil)
        refine step_plain rfl ?_
        go_simp
        refine (HKq.out _).mono ?_
        rintro e w2 ⟨rfl, b2⟩
        have D2 : Hid _ := D1.out.below b2
        have HT2 : Hid (Turn (fun i => i = a ∨ i = b) w w2) := HT1.out.then_below b2
        have HS2 : w2.cell? ⟨p, 0, none⟩ = some (.slice (some ⟨a, 0, none⟩) n ca) := by have := D2.out.c.1; rw [hl1, hn] at this; exact this
        refine hK.out _ _ HS2 (fun _ => ?_)
        clear hK K
        try simp only [List.getElem_toArray, List.getElem_cons_succ, List.getElem_cons_zero, Act.put, List.setIfInBounds_toArray, List.set_cons_zero, List.set_cons_succ]
        obtain ⟨cur, new, g1, g2, g3, D3⟩ := D2.out.putSure i (by rw [hl1]; exact hyl) Y
        rw [HXY.out] at g2 g3
        have HD3 : Hid _ := D3
        have HT3 : Hid (Turn (fun i => i = a ∨ i = b) w (w2.setRow a new)) := HT2.out.setRow (.inl rfl) new
        have G1 : Hid _ := g1
        have G2 : Hid _ := g2
        have G3 : Hid _ := g3
        clear g1 g2 g3 D3
        obtain ⟨c0, c1, -⟩ := HD3.out.c
        simp only [List.length_set] at c0 c1
        rw [hl1, hn] at c0 c1
        have HRg3 : Hid ((w2.setRow a new).rangeAt a (i * 129) X.toList) := by rw [← HXY.out]; exact HD3.out.rangeS i Y (by simp only [List.getElem?_set_self (show i < (crashN d.sure d.told d.acts k m).1.length by rw [hl1]; exact hyl)])
        refine wpAnyH_take (i := 15) (v := .pointer (some ⟨a, i * 129, none⟩)) rfl (by kernel_rfl) (by kernel_rfl) (by kernel_rfl) (fun _ _ _ h => h) (Or.inl ⟨by rfl, by intro w _; go_simp⟩) HS2 ?_
        simp only [List.getElem_toArray, List.getElem_cons_succ, List.getElem_cons_zero, Act.put, List.setIfInBounds_toArray, List.set_cons_zero, List.set_cons_succ]
        refine wpAnyH_ready (rs := [16]) (by kernel_rfl) (by simp) (AllReadyH.cons (by simp only [List.getElem?_toArray, List.getElem?_cons_succ, List.getElem?_cons_zero]; rfl) (fun K hK => ?_) AllReadyH.nil)
        refine step_plain rfl (wp_store_midR 57 _ _ rfl a (i * 129) X cur new 57 rfl rfl G1.out G2.out HXi.out HX1.out G3.out ?_)
        refine hK.out _ _ c0 (fun _ => ?_)
        clear hK K
        try simp only [List.getElem_toArray, List.getElem_cons_succ, List.getElem_cons_zero, Act.put, List.setIfInBounds_toArray, List.set_cons_zero, List.set_cons_succ]
        refine wpAnyH_done (by kernel_rfl) ?_ _
        clear HS HS2 G1 G2 G3 HRg HIB
        generalize w2.setRow a new = W3 at *
        have HS : W3.drew.cell? ⟨p, 0, none⟩ = some (.slice (some ⟨a, 0, none⟩) n ca) ∧ W3.drew.cell? ⟨p, 1, none⟩ = some (.slice (some ⟨b, 0, none⟩) n cb) := ⟨c0, c1⟩
        have HRg : Hid (W3.drew.rangeAt a (i * 129) X.toList) := HRg3.out
        have HT4 : Hid (Turn (fun i => i = a ∨ i = b) w W3.drew) := HT3.out.drew
        obtain ⟨cur, new, g1, g2, g3, D3⟩ := HD3.out.drew.putTold i (by simp only [List.length_set]; rw [hl1]; exact hyl) Y
        rw [HXY.out] at g2 g3
        have HD4 : Hid _ := D3
        have HT5 : Hid (Turn (fun i => i = a ∨ i = b) w (W3.drew.setRow b new)) := HT4.out.setRow (.inr rfl) new
        have G1 : Hid _ := g1
        have G2 : Hid _ := g2
        have G3 : Hid _ := g3
        clear g1 g2 g3 D3
        obtain ⟨e0, e1, -⟩ := HD4.out.c
        simp only [List.length_set] at e0 e1
        rw [hl1, hn] at e0 e1
        clear c0 c1 HRg3
        go_wp2_with fail
        refine wp_region_held (S := fun w' => w'.cell? ⟨p, 0, none⟩ = some (.slice (some ⟨a, 0, none⟩) n ca) ∧ w'.cell? ⟨p, 1, none⟩ = some (.slice (some ⟨b, 0, none⟩) n cb)) (by kernel_rfl) ?_
        change wpAnyH _ _ _ _ _ _ _ _ (World.drew _)
        generalize W3.drew = W4 at *
        refine wpAnyH_take (i := 0) (v := .pointer (some ⟨p, 0, none⟩)) rfl (by kernel_rfl) (by kernel_rfl) (by kernel_rfl) (fun _ _ _ h => h) (Or.inl ⟨by rfl, by intro w _; go_simp⟩) HS ?_
        simp only [List.getElem_toArray, List.getElem_cons_succ, List.getElem_cons_zero, Act.put, List.setIfInBounds_toArray, List.set_cons_zero, List.set_cons_succ]
        refine wpAnyH_take (i := 1) (v := .pointer (some ⟨p, 0, none⟩)) rfl (by kernel_rfl) (by kernel_rfl) (by kernel_rfl) (fun _ _ _ h => h) (Or.inl ⟨by rfl, by intro w _; go_simp⟩) HS ?_
        simp only [List.getElem_toArray, List.getElem_cons_succ, List.getElem_cons_zero, Act.put, List.setIfInBounds_toArray, List.set_cons_zero, List.set_cons_succ]
        refine wpAnyH_take (i := 2) (v := .pointer (some ⟨p, 1, none⟩)) rfl (by kernel_rfl) (by kernel_rfl) (by kernel_rfl) (fun _ _ _ h => h) (Or.inl ⟨by rfl, by intro w _; go_simp⟩) HS ?_
        simp only [List.getElem_toArray, List.getElem_cons_succ, List.getElem_cons_zero, Act.put, List.setIfInBounds_toArray, List.set_cons_zero, List.set_cons_succ]
        refine wpAnyH_take (i := 3) (v := .slice (some ⟨b, 0, none⟩) n cb) rfl (by kernel_rfl) (by kernel_rfl) (by kernel_rfl) (fun _ _ _ h => h) (Or.inl ⟨by rfl, by intro w hw; have hw : w.cell? ⟨p, 0, none⟩ = some (.slice (some ⟨a, 0, none⟩) n ca) ∧ w.cell? ⟨p, 1, none⟩ = some (.slice (some ⟨b, 0, none⟩) n cb) := hw; obtain ⟨hw1, hw2⟩ := hw; go_simp⟩) HS ?_
        simp only [List.getElem_toArray, List.getElem_cons_succ, List.getElem_cons_zero, Act.put, List.setIfInBounds_toArray, List.set_cons_zero, List.set_cons_succ]
        refine wpAnyH_take (i := 4) (v := .int .i64 (i : Int)) rfl (by kernel_rfl) (by kernel_rfl) (by kernel_rfl) (fun _ _ _ h => h) (Or.inl ⟨by rfl, by intro w _; go_simp⟩) HS ?_
        simp only [List.getElem_toArray, List.getElem_cons_succ, List.getElem_cons_zero, Act.put, List.setIfInBounds_toArray, List.set_cons_zero, List.set_cons_succ]
        refine wpAnyH_take (i := 5) (v := .pointer (some ⟨p, 0, none⟩)) rfl (by kernel_rfl) (by kernel_rfl) (by kernel_rfl) (fun _ _ _ h => h) (Or.inl ⟨by rfl, by intro w _; go_simp⟩) HS ?_
        simp only [List.getElem_toArray, List.getElem_cons_succ, List.getElem_cons_zero, Act.put, List.setIfInBounds_toArray, List.set_cons_zero, List.set_cons_succ]
        refine wpAnyH_take (i := 6) (v := .pointer (some ⟨p, 0, none⟩)) rfl (by kernel_rfl) (by kernel_rfl) (by kernel_rfl) (fun _ _ _ h => h) (Or.inl ⟨by rfl, by intro w _; go_simp⟩) HS ?_
        simp only [List.getElem_toArray, List.getElem_cons_succ, List.getElem_cons_zero, Act.put, List.setIfInBounds_toArray, List.set_cons_zero, List.set_cons_succ]
        refine wpAnyH_take (i := 7) (v := .pointer (some ⟨p, 0, none⟩)) rfl (by kernel_rfl) (by kernel_rfl) (by kernel_rfl) (fun _ _ _ h => h) (Or.inl ⟨by rfl, by intro w _; go_simp⟩) HS ?_
        simp only [List.getElem_toArray, List.getElem_cons_succ, List.getElem_cons_zero, Act.put, List.setIfInBounds_toArray, List.set_cons_zero, List.set_cons_succ]
        refine wpAnyH_take (i := 8) (v := .slice (some ⟨a, 0, none⟩) n ca) rfl (by kernel_rfl) (by kernel_rfl) (by kernel_rfl) (fun _ _ _ h => h) (Or.inl ⟨by rfl, by intro w hw; have hw : w.cell? ⟨p, 0, none⟩ = some (.slice (some ⟨a, 0, none⟩) n ca) ∧ w.cell? ⟨p, 1, none⟩ = some (.slice (some ⟨b, 0, none⟩) n cb) := hw; obtain ⟨hw1, hw2⟩ := hw; go_simp⟩) HS ?_
        simp only [List.getElem_toArray, List.getElem_cons_succ, List.getElem_cons_zero, Act.put, List.setIfInBounds_toArray, List.set_cons_zero, List.set_cons_succ]
        refine wpAnyH_take (i := 9) (v := .int .i64 (i : Int)) rfl (by kernel_rfl) (by kernel_rfl) (by kernel_rfl) (fun _ _ _ h => h) (Or.inl ⟨by rfl, by intro w _; go_simp⟩) HS ?_
        simp only [List.getElem_toArray, List.getElem_cons_succ, List.getElem_cons_zero, Act.put, List.setIfInBounds_toArray, List.set_cons_zero, List.set_cons_succ]
        refine wpAnyH_take (i := 10) (v := .pointer (some ⟨a, i * 129, none⟩)) rfl (by kernel_rfl) (by kernel_rfl) (by kernel_rfl) (fun _ _ _ h => h) (Or.inl ⟨by rfl, by intro w _; go_simp⟩) HS ?_
        simp only [List.getElem_toArray, List.getElem_cons_succ, List.getElem_cons_zero, Act.put, List.setIfInBounds_toArray, List.set_cons_zero, List.set_cons_succ]
        refine wpAnyH_ready (rs := [11]) (by kernel_rfl) (by simp) (AllReadyH.cons (by simp only [List.getElem?_toArray, List.getElem?_cons_succ, List.getElem?_cons_zero]; rfl) (fun K hK => ?_) AllReadyH.nil)
        refine step_plain rfl (wp_load_mid 57 _ rfl a (i * 129) rfl X.toList _ HRg.out Try.underlying57 rfl HXl.out ?_)
        refine hK.out _ _ HS (fun _ => ?_)
        clear hK K
        try simp only [List.getElem_toArray, List.getElem_cons_succ, List.getElem_cons_zero, Act.put, List.setIfInBounds_toArray, List.set_cons_zero, List.set_cons_succ]
        refine wpAnyH_take (i := 12) (v := .pointer (some ⟨b, i * 129, none⟩)) rfl (by kernel_rfl) (by kernel_rfl) (by kernel_rfl) (fun _ _ _ h => h) (Or.inl ⟨by rfl, by intro w _; go_simp⟩) HS ?_
        simp only [List.getElem_toArray, List.getElem_cons_succ, List.getElem_cons_zero, Act.put, List.setIfInBounds_toArray, List.set_cons_zero, List.set_cons_succ]
        refine wpAnyH_ready (rs := [13]) (by kernel_rfl) (by simp) (AllReadyH.cons (by simp only [List.getElem?_toArray, List.getElem?_cons_succ, List.getElem?_cons_zero]; rfl) (fun K hK => ?_) AllReadyH.nil)
        refine step_plain rfl (wp_store_midR 57 _ _ rfl b (i * 129) X cur new 57 rfl rfl G1.out G2.out HXi.out HX1.out G3.out ?_)
        refine hK.out _ _ ⟨e0, e1⟩ (fun _ => ?_)
        clear hK K
        try simp only [List.getElem_toArray, List.getElem_cons_succ, List.getElem_cons_zero, Act.put, List.setIfInBounds_toArray, List.set_cons_zero, List.set_cons_succ]
        refine wpAnyH_done (by kernel_rfl) ?_ _
        have HIN : Hid (InCr w p d O a b ca cb (.slice (some ⟨g, 0, none⟩) d.acts.length c) fv kv k (m + 1) (W4.setRow b new)) := ⟨by rw [HSU.out]; exact HD4.out, HT5.out⟩
        clear HS HRg G1 G2 G3 e0 e1 HD4 HT5 HT4 HD3 HT3 HSU HKC hL
        generalize W4.setRow b new = W5 at *
        go_wp2
        go_roundw
        case rel => exact ⟨m + 1, by omega, by go_num, HIN.out⟩
        case measure => simp [intOf]; omega
      · obtain ⟨q, hq⟩ : ∃ q, q = k.getD m 0 := ⟨_, rfl⟩
        rw [← hq] at HSU
        have hq0 : q = 0 := by rw [hq, List.getD_eq_getElem?_getD, List.getElem?_eq_none (by omega)]; rfl
        have hkl2 : ¬ (m : Int) < (k.length : Int) := by omega
        clear hq hkl
        subst hq0
        generalize k.length = kl at *
        go_wp2_with fail
        refine (HP.out _).mono ?_
        rintro e w1 ⟨rfl, b1⟩
        have D1 : Hid _ := (HDV.out.below b1).drew
        have HT1 : Hid (Turn (fun i => i = a ∨ i = b) w w1.drew) := (HTU.out.then_below b1).drew
        obtain ⟨c0, c1, -⟩ := D1.out.c
        have hin : i < n := by rw [← hn]; exact hyl
        have hin2 : (i : Int) < (n : Int) := by omega
        rw [hl1, hn] at c0 c1
        have HS : w1.drew.cell? ⟨p, 0, none⟩ = some (.slice (some ⟨a, 0, none⟩) n ca) := c0
        have HRg : Hid (w1.drew.rangeAt a (i * 129) (bc B).toArray.toList) := D1.out.rangeS i B hB
        have HIB : Hid ((Try.prog.info? 57).map (·.size) = some (bc B).toArray.toList.length) := by show _ = _; rw [info_bk]; simp
        obtain ⟨Y, hY⟩ : ∃ Y, keptB B y 0 = Y := ⟨_, rfl⟩
        rw [hY] at HSU
        obtain ⟨X, hX⟩ : ∃ X, (bc Y).toArray = X := ⟨_, rfl⟩
        have HKq : Hid (∀ w : World, Calls Try.prog 49 #[.agg (bc B).toArray, .iface T V, .int .i64 0] w fun e w' => e = .returned (.agg X) ∧ Below w.heap.size w w') := by rw [← hX, ← hY]; exact HKP.out 0
        have HXi : Hid ((Try.prog.info? 57).map (·.size) = some X.size) := by show _ = _; rw [info_bk, ← hX, bcA_size]
        have HX1 : Hid (X.all (·.oneCell') = true) := by rw [← hX]; exact bcA_one _
        have HXl : Hid ((Try.prog.info? 57).map (·.size) = some X.toList.length) := by show _ = _; rw [info_bk, ← hX]; simp
        have HXY : Hid ((bc Y).toArray = X) := hX
        clear c0 c1 hM hCF b1 hY HKP hX
        generalize (bc B).toArray = BC at *
        go_wp2_with fail
        refine wp_region_held (S := fun w' => w'.cell? ⟨p, 0, none⟩ = some (.slice (some ⟨a, 0, none⟩) n ca)) (by kernel_rfl) ?_
        change wpAnyH _ _ _ _ _ _ _ _ (World.drew _)
        generalize w1.drew = W1 at *
        refine wpAnyH_take (i := 0) (v := .pointer (some ⟨p, 0, none⟩)) rfl (by kernel_rfl) (by kernel_rfl) (by kernel_rfl) (fun _ _ _ h => h) (Or.inl ⟨by rfl, by intro w _; go_simp⟩) HS ?_
        simp only [List.getElem_toArray, List.getElem_cons_succ, List.getElem_cons_zero, Act.put, List.setIfInBounds_toArray, List.set_cons_zero, List.set_cons_succ]
        refine wpAnyH_take (i := 1) (v := .pointer (some ⟨p, 0, none⟩)) rfl (by kernel_rfl) (by kernel_rfl) (by kernel_rfl) (fun _ _ _ h => h) (Or.inl ⟨by rfl, by intro w _; go_simp⟩) HS ?_
        simp only [List.getElem_toArray, List.getElem_cons_succ, List.getElem_cons_zero, Act.put, List.setIfInBounds_toArray, List.set_cons_zero, List.set_cons_succ]
        refine wpAnyH_take (i := 2) (v := .pointer (some ⟨p, 0, none⟩)) rfl (by kernel_rfl) (by kernel_rfl) (by kernel_rfl) (fun _ _ _ h => h) (Or.inl ⟨by rfl, by intro w _; go_simp⟩) HS ?_
        simp only [List.getElem_toArray, List.getElem_cons_succ, List.getElem_cons_zero, Act.put, List.setIfInBounds_toArray, List.set_cons_zero, List.set_cons_succ]
        refine wpAnyH_take (i := 3) (v := .slice (some ⟨a, 0, none⟩) n ca) rfl (by kernel_rfl) (by kernel_rfl) (by kernel_rfl) (fun _ _ _ h => h) (Or.inl ⟨by rfl, by intro w hw; have hw : w.cell? ⟨p, 0, none⟩ = some (.slice (some ⟨a, 0, none⟩) n ca) := hw; go_simp⟩) HS ?_
        simp only [List.getElem_toArray, List.getElem_cons_succ, List.getElem_cons_zero, Act.put, List.setIfInBounds_toArray, List.set_cons_zero, List.set_cons_succ]
        refine wpAnyH_take (i := 4) (v := .int .i64 (i : Int)) rfl (by kernel_rfl) (by kernel_rfl) (by kernel_rfl) (fun _ _ _ h => h) (Or.inl ⟨by rfl, by intro w _; go_simp⟩) HS ?_
        simp only [List.getElem_toArray, List.getElem_cons_succ, List.getElem_cons_zero, Act.put, List.setIfInBounds_toArray, List.set_cons_zero, List.set_cons_succ]
        refine wpAnyH_take (i := 5) (v := .pointer (some ⟨p, 0, none⟩)) rfl (by kernel_rfl) (by kernel_rfl) (by kernel_rfl) (fun _ _ _ h => h) (Or.inl ⟨by rfl, by intro w _; go_simp⟩) HS ?_
        simp only [List.getElem_toArray, List.getElem_cons_succ, List.getElem_cons_zero, Act.put, List.setIfInBounds_toArray, List.set_cons_zero, List.set_cons_succ]
        refine wpAnyH_take (i := 6) (v := .pointer (some ⟨p, 0, none⟩)) rfl (by kernel_rfl) (by kernel_rfl) (by kernel_rfl) (fun _ _ _ h => h) (Or.inl ⟨by rfl, by intro w _; go_simp⟩) HS ?_
        simp only [List.getElem_toArray, List.getElem_cons_succ, List.getElem_cons_zero, Act.put, List.setIfInBounds_toArray, List.set_cons_zero, List.set_cons_succ]
        refine wpAnyH_take (i := 7) (v := .pointer (some ⟨p, 0, none⟩)) rfl (by kernel_rfl) (by kernel_rfl) (by kernel_rfl) (fun _ _ _ h => h) (Or.inl ⟨by rfl, by intro w _; go_simp⟩) HS ?_
        simp only [List.getElem_toArray, List.getElem_cons_succ, List.getElem_cons_zero, Act.put, List.setIfInBounds_toArray, List.set_cons_zero, List.set_cons_succ]
        refine wpAnyH_take (i := 8) (v := .slice (some ⟨a, 0, none⟩) n ca) rfl (by kernel_rfl) (by kernel_rfl) (by kernel_rfl) (fun _ _ _ h => h) (Or.inl ⟨by rfl, by intro w hw; have hw : w.cell? ⟨p, 0, none⟩ = some (.slice (some ⟨a, 0, none⟩) n ca) := hw; go_simp⟩) HS ?_
        simp only [List.getElem_toArray, List.getElem_cons_succ, List.getElem_cons_zero, Act.put, List.setIfInBounds_toArray, List.set_cons_zero, List.set_cons_succ]
        refine wpAnyH_take (i := 9) (v := .int .i64 (i : Int)) rfl (by kernel_rfl) (by kernel_rfl) (by kernel_rfl) (fun _ _ _ h => h) (Or.inl ⟨by rfl, by intro w _; go_simp⟩) HS ?_
        simp only [List.getElem_toArray, List.getElem_cons_succ, List.getElem_cons_zero, Act.put, List.setIfInBounds_toArray, List.set_cons_zero, List.set_cons_succ]
        refine wpAnyH_take (i := 10) (v := .pointer (some ⟨a, i * 129, none⟩)) rfl (by kernel_rfl) (by kernel_rfl) (by kernel_rfl) (fun _ _ _ h => h) (Or.inl ⟨by rfl, by intro w _; go_simp⟩) HS ?_
        simp only [List.getElem_toArray, List.getElem_cons_succ, List.getElem_cons_zero, Act.put, List.setIfInBounds_toArray, List.set_cons_zero, List.set_cons_succ]
        refine wpAnyH_take (i := 12) (v := .iface T V) rfl (by kernel_rfl) (by kernel_rfl) (by kernel_rfl) (fun _ _ _ h => h) (Or.inl ⟨by rfl, by intro w _; go_simp⟩) HS ?_
        simp only [List.getElem_toArray, List.getElem_cons_succ, List.getElem_cons_zero, Act.put, List.setIfInBounds_toArray, List.set_cons_zero, List.set_cons_succ]
        refine wpAnyH_take (i := 13) (v := .int .i64 0) rfl (by kernel_rfl) (by kernel_rfl) (by kernel_rfl) (fun _ _ _ h => h) (Or.inl ⟨by rfl, by intro w _; go_simp⟩) HS ?_
        simp only [List.getElem_toArray, List.getElem_cons_succ, List.getElem_cons_zero, Act.put, List.setIfInBounds_toArray, List.set_cons_zero, List.set_cons_succ]
        refine wpAnyH_ready (rs := [11]) (by kernel_rfl) (by simp) (AllReadyH.cons (by simp only [List.getElem?_toArray, List.getElem?_cons_succ, List.getElem?_cons_zero]; rfl) (fun K hK => ?_) AllReadyH.nil)
        refine step_plain rfl (wp_load_mid 57 _ rfl a (i * 129) rfl BC.toList _ HRg.out Try.underlying57 rfl HIB.out ?_)
        refine hK.out _ _ HS (fun _ => ?_)
        clear hK K
        try simp only [List.getElem_toArray, List.getElem_cons_succ, List.getElem_cons_zero, Act.put, List.setIfInBounds_toArray, List.set_cons_zero, List.set_cons_succ]
        refine wpAnyH_ready (rs := [14]) (by kernel_rfl) (by simp) (AllReadyH.cons (by simp only [List.getElem?_toArray, List.getElem?_cons_succ, List.getElem?_cons_zero]; rfl) (fun K hK => ?_) AllReadyH.nil)
        refine step_plain rfl ?_
        go_simp
        refine (HKq.out _).mono ?_
        rintro e w2 ⟨rfl, b2⟩
        have D2 : Hid _ := D1.out.below b2
        have HT2 : Hid (Turn (fun i => i = a ∨ i = b) w w2) := HT1.out.then_below b2
        have HS2 : w2.cell? ⟨p, 0, none⟩ = some (.slice (some ⟨a, 0, none⟩) n ca) := by have := D2.out.c.1; rw [hl1, hn] at this; exact this
        refine hK.out _ _ HS2 (fun _ => ?_)
        clear hK K
        try simp only [List.getElem_toArray, List.getElem_cons_succ, List.getElem_cons_zero, Act.put, List.setIfInBounds_toArray, List.set_cons_zero, List.set_cons_succ]
        obtain ⟨cur, new, g1, g2, g3, D3⟩ := D2.out.putSure i (by rw [hl1]; exact hyl) Y
        rw [HXY.out] at g2 g3
        have HD3 : Hid _ := D3
        have HT3 : Hid (Turn (fun i => i = a ∨ i = b) w (w2.setRow a new)) := HT2.out.setRow (.inl rfl) new
        have G1 : Hid _ := g1
        have G2 : Hid _ := g2
        have G3 : Hid _ := g3
        clear g1 g2 g3 D3
        obtain ⟨c0, c1, -⟩ := HD3.out.c
        simp only [List.length_set] at c0 c1
        rw [hl1, hn] at c0 c1
        have HRg3 : Hid ((w2.setRow a new).rangeAt a (i * 129) X.toList) := by rw [← HXY.out]; exact HD3.out.rangeS i Y (by simp only [List.getElem?_set_self (show i < (crashN d.sure d.told d.acts k m).1.length by rw [hl1]; exact hyl)])
        refine wpAnyH_take (i := 15) (v := .pointer (some ⟨a, i * 129, none⟩)) rfl (by kernel_rfl) (by kernel_rfl) (by kernel_rfl) (fun _ _ _ h => h) (Or.inl ⟨by rfl, by intro w _; go_simp⟩) HS2 ?_
        simp only [List.getElem_toArray, List.getElem_cons_succ, List.getElem_cons_zero, Act.put, List.setIfInBounds_toArray, List.set_cons_zero, List.set_cons_succ]
        refine wpAnyH_ready (rs := [16]) (by kernel_rfl) (by simp) (AllReadyH.cons (by simp only [List.getElem?_toArray, List.getElem?_cons_succ, List.getElem?_cons_zero]; rfl) (fun K hK => ?_) AllReadyH.nil)
        refine step_plain rfl (wp_store_midR 57 _ _ rfl a (i * 129) X cur new 57 rfl rfl G1.out G2.out HXi.out HX1.out G3.out ?_)
        refine hK.out _ _ c0 (fun _ => ?_)
        clear hK K
        try simp only [List.getElem_toArray, List.getElem_cons_succ, List.getElem_cons_zero, Act.put, List.setIfInBounds_toArray, List.set_cons_zero, List.set_cons_succ]
        refine wpAnyH_done (by kernel_rfl) ?_ _
        clear HS HS2 G1 G2 G3 HRg HIB
        generalize w2.setRow a new = W3 at *
        have HS : W3.drew.cell? ⟨p, 0, none⟩ = some (.slice (some ⟨a, 0, none⟩) n ca) ∧ W3.drew.cell? ⟨p, 1, none⟩ = some (.slice (some ⟨b, 0, none⟩) n cb) := ⟨c0, c1⟩
        have HRg : Hid (W3.drew.rangeAt a (i * 129) X.toList) := HRg3.out
        have HT4 : Hid (Turn (fun i => i = a ∨ i = b) w W3.drew) := HT3.out.drew
        obtain ⟨cur, new, g1, g2, g3, D3⟩ := HD3.out.drew.putTold i (by simp only [List.length_set]; rw [hl1]; exact hyl) Y
        rw [HXY.out] at g2 g3
        have HD4 : Hid _ := D3
        have HT5 : Hid (Turn (fun i => i = a ∨ i = b) w (W3.drew.setRow b new)) := HT4.out.setRow (.inr rfl) new
        have G1 : Hid _ := g1
        have G2 : Hid _ := g2
        have G3 : Hid _ := g3
        clear g1 g2 g3 D3
        obtain ⟨e0, e1, -⟩ := HD4.out.c
        simp only [List.length_set] at e0 e1
        rw [hl1, hn] at e0 e1
        clear c0 c1 HRg3
        go_wp2_with fail
        refine wp_region_held (S := fun w' => w'.cell? ⟨p, 0, none⟩ = some (.slice (some ⟨a, 0, none⟩) n ca) ∧ w'.cell? ⟨p, 1, none⟩ = some (.slice (some ⟨b, 0, none⟩) n cb)) (by kernel_rfl) ?_
        change wpAnyH _ _ _ _ _ _ _ _ (World.drew _)
        generalize W3.drew = W4 at *
        refine wpAnyH_take (i := 0) (v := .pointer (some ⟨p, 0, none⟩)) rfl (by kernel_rfl) (by kernel_rfl) (by kernel_rfl) (fun _ _ _ h => h) (Or.inl ⟨by rfl, by intro w _; go_simp⟩) HS ?_
        simp only [List.getElem_toArray, List.getElem_cons_succ, List.getElem_cons_zero, Act.put, List.setIfInBounds_toArray, List.set_cons_zero, List.set_cons_succ]
        refine wpAnyH_take (i := 1) (v := .pointer (some ⟨p, 0, none⟩)) rfl (by kernel_rfl) (by kernel_rfl) (by kernel_rfl) (fun _ _ _ h => h) (Or.inl ⟨by rfl, by intro w _; go_simp⟩) HS ?_
        simp only [List.getElem_toArray, List.getElem_cons_succ, List.getElem_cons_zero, Act.put, List.setIfInBounds_toArray, List.set_cons_zero, List.set_cons_succ]
        refine wpAnyH_take (i := 2) (v := .pointer (some ⟨p, 1, none⟩)) rfl (by kernel_rfl) (by kernel_rfl) (by kernel_rfl) (fun _ _ _ h => h) (Or.inl ⟨by rfl, by intro w _; go_simp⟩) HS ?_
        simp only [List.getElem_toArray, List.getElem_cons_succ, List.getElem_cons_zero, Act.put, List.setIfInBounds_toArray, List.set_cons_zero, List.set_cons_succ]
        refine wpAnyH_take (i := 3) (v := .slice (some ⟨b, 0, none⟩) n cb) rfl (by kernel_rfl) (by kernel_rfl) (by kernel_rfl) (fun _ _ _ h => h) (Or.inl ⟨by rfl, by intro w hw; have hw : w.cell? ⟨p, 0, none⟩ = some (.slice (some ⟨a, 0, none⟩) n ca) ∧ w.cell? ⟨p, 1, none⟩ = some (.slice (some ⟨b, 0, none⟩) n cb) := hw; obtain ⟨hw1, hw2⟩ := hw; go_simp⟩) HS ?_
        simp only [List.getElem_toArray, List.getElem_cons_succ, List.getElem_cons_zero, Act.put, List.setIfInBounds_toArray, List.set_cons_zero, List.set_cons_succ]
        refine wpAnyH_take (i := 4) (v := .int .i64 (i : Int)) rfl (by kernel_rfl) (by kernel_rfl) (by kernel_rfl) (fun _ _ _ h => h) (Or.inl ⟨by rfl, by intro w _; go_simp⟩) HS ?_
        simp only [List.getElem_toArray, List.getElem_cons_succ, List.getElem_cons_zero, Act.put, List.setIfInBounds_toArray, List.set_cons_zero, List.set_cons_succ]
        refine wpAnyH_take (i := 5) (v := .pointer (some ⟨p, 0, none⟩)) rfl (by kernel_rfl) (by kernel_rfl) (by kernel_rfl) (fun _ _ _ h => h) (Or.inl ⟨by rfl, by intro w _; go_simp⟩) HS ?_
        simp only [List.getElem_toArray, List.getElem_cons_succ, List.getElem_cons_zero, Act.put, List.setIfInBounds_toArray, List.set_cons_zero, List.set_cons_succ]
        refine wpAnyH_take (i := 6) (v := .pointer (some ⟨p, 0, none⟩)) rfl (by kernel_rfl) (by kernel_rfl) (by kernel_rfl) (fun _ _ _ h => h) (Or.inl ⟨by rfl, by intro w _; go_simp⟩) HS ?_
        simp only [List.getElem_toArray, List.getElem_cons_succ, List.getElem_cons_zero, Act.put, List.setIfInBounds_toArray, List.set_cons_zero, List.set_cons_succ]
        refine wpAnyH_take (i := 7) (v := .pointer (some ⟨p, 0, none⟩)) rfl (by kernel_rfl) (by kernel_rfl) (by kernel_rfl) (fun _ _ _ h => h) (Or.inl ⟨by rfl, by intro w _; go_simp⟩) HS ?_
        simp only [List.getElem_toArray, List.getElem_cons_succ, List.getElem_cons_zero, Act.put, List.setIfInBounds_toArray, List.set_cons_zero, List.set_cons_succ]
        refine wpAnyH_take (i := 8) (v := .slice (some ⟨a, 0, none⟩) n ca) rfl (by kernel_rfl) (by kernel_rfl) (by kernel_rfl) (fun _ _ _ h => h) (Or.inl ⟨by rfl, by intro w hw; have hw : w.cell? ⟨p, 0, none⟩ = some (.slice (some ⟨a, 0, none⟩) n ca) ∧ w.cell? ⟨p, 1, none⟩ = some (.slice (some ⟨b, 0, none⟩) n cb) := hw; obtain ⟨hw1, hw2⟩ := hw; go_simp⟩) HS ?_
        simp only [List.getElem_toArray, List.getElem_cons_succ, List.getElem_cons_zero, Act.put, List.setIfInBounds_toArray, List.set_cons_zero, List.set_cons_succ]
        refine wpAnyH_take (i := 9) (v := .int .i64 (i : Int)) rfl (by kernel_rfl) (by kernel_rfl) (by kernel_rfl) (fun _ _ _ h => h) (Or.inl ⟨by rfl, by intro w _; go_simp⟩) HS ?_
        simp only [List.getElem_toArray, List.getElem_cons_succ, List.getElem_cons_zero, Act.put, List.setIfInBounds_toArray, List.set_cons_zero, List.set_cons_succ]
        refine wpAnyH_take (i := 10) (v := .pointer (some ⟨a, i * 129, none⟩)) rfl (by kernel_rfl) (by kernel_rfl) (by kernel_rfl) (fun _ _ _ h => h) (Or.inl ⟨by rfl, by intro w _; go_simp⟩) HS ?_
        simp only [List.getElem_toArray, List.getElem_cons_succ, List.getElem_cons_zero, Act.put, List.setIfInBounds_toArray, List.set_cons_zero, List.set_cons_succ]
        refine wpAnyH_ready (rs := [11]) (by kernel_rfl) (by simp) (AllReadyH.cons (by simp only [List.getElem?_toArray, List.getElem?_cons_succ, List.getElem?_cons_zero]; rfl) (fun K hK => ?_) AllReadyH.nil)
        refine step_plain rfl (wp_load_mid 57 _ rfl a (i * 129) rfl X.toList _ HRg.out Try.underlying57 rfl HXl.out ?_)
        refine hK.out _ _ HS (fun _ => ?_)
        clear hK K
        try simp only [List.getElem_toArray, List.getElem_cons_succ, List.getElem_cons_zero, Act.put, List.setIfInBounds_toArray, List.set_cons_zero, List.set_cons_succ]
        refine wpAnyH_take (i := 12) (v := .pointer (some ⟨b, i * 129, none⟩)) rfl (by kernel_rfl) (by kernel_rfl) (by kernel_rfl) (fun _ _ _ h => h) (Or.inl ⟨by rfl, by intro w _; go_simp⟩) HS ?_
        simp only [List.getElem_toArray, List.getElem_cons_succ, List.getElem_cons_zero, Act.put, List.setIfInBounds_toArray, List.set_cons_zero, List.set_cons_succ]
        refine wpAnyH_ready (rs := [13]) (by kernel_rfl) (by simp) (AllReadyH.cons (by simp only [List.getElem?_toArray, List.getElem?_cons_succ, List.getElem?_cons_zero]; rfl) (fun K hK => ?_) AllReadyH.nil)
        refine step_plain rfl (wp_store_midR 57 _ _ rfl b (i * 129) X cur new 57 rfl rfl G1.out G2.out HXi.out HX1.out G3.out ?_)
        refine hK.out _ _ ⟨e0, e1⟩ (fun _ => ?_)
        clear hK K
        try simp only [List.getElem_toArray, List.getElem_cons_succ, List.getElem_cons_zero, Act.put, List.setIfInBounds_toArray, List.set_cons_zero, List.set_cons_succ]
        refine wpAnyH_done (by kernel_rfl) ?_ _
        have HIN : Hid (InCr w p d O a b ca cb (.slice (some ⟨g, 0, none⟩) d.acts.length c) fv kv k (m + 1) (W4.setRow b new)) := ⟨by rw [HSU.out]; exact HD4.out, HT5.out⟩
        clear HS HRg G1 G2 G3 e0 e1 HD4 HT5 HT4 HD3 HT3 HSU HKC hL
        generalize W4.setRow b new = W5 at *
        go_wp2
        go_roundw
        case rel => exact ⟨m + 1, by omega, by go_num, HIN.out⟩
        case measure => simp [intOf]; omega
    · have hmN : m = d.acts.length := by omega
      have HDE : Hid _ := hI.dev.ended
      have HTU : Hid (Turn O w wr) := ⟨hI.turn.os, hI.turn.tape, hI.turn.output, hI.turn.size, fun k hk hn => hI.turn.block k hk (by rintro (e | e) <;> (subst e; contradiction))⟩
      obtain ⟨-, -, c2, c3, -, c5⟩ := hI.dev.c
      have f2 : wr.frozen? ⟨p, 2, none⟩ = false := frozen_of_row _ _ _ _ _ hI.dev.cells
      have f3 : wr.frozen? ⟨p, 3, none⟩ = false := frozen_of_row _ _ _ _ _ hI.dev.cells
      have f5 : wr.frozen? ⟨p, 5, none⟩ = false := frozen_of_row _ _ _ _ _ hI.dev.cells
      have HE : Hid _ := hI
      have hng : ¬ (m : Int) < (d.acts.length : Int) := by omega
      clear hI HX HKC hL
      have HMN : Hid (m = d.acts.length) := hmN
      clear hmN hlt hm
      go_wp2
      go_end0
      refine ⟨rfl, ?_, ((HTU.out.setCell hOp _).setCell hOp _).setCell hOp _⟩
      have hmN := HMN.out
      subst hmN
      exact HDE.out
end Go.Proofs.Ythlaackalmgfnab
