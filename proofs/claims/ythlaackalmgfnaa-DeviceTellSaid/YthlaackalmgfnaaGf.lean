/- The document's device: a crash. -/
import Derived.Test.YthlaackalmgfnaaHa
import Derived.Deep.DeepCutAuto
import Derived.Deep.CutRange
namespace Go.Proofs.Ythlaackalmgfnaa
open Go.RowKit

set_option linter.unusedSimpArgs false in
set_option maxRecDepth 100000 in
set_option maxHeartbeats 3200000 in
theorem rcrash_at {w : World} {q : Nat} {r : Rv} {O : Nat → Prop} {a b ca cb : Nat} {cv kv : Value} (h : RefAt w q r O a b ca cb cv kv) (hr : r.acts.length < 1000000) (ho : r.off = false) {ka : Option Addr} {kc : Nat} {k : List Int} (hk : IntsAt w (.slice ka k.length kc) k) (hkb : k ≠ [] → ∀ i, (Value.slice ka k.length kc).ownBlock = some i → i < w.heap.size → i ≠ a ∧ i ≠ b) (hkl : k.length ≤ 1000000) :
    Calls Try.prog 42 #[.pointer (some ⟨q, 0, none⟩), .slice ka k.length kc] w fun e w' => e = .returned (.int .i64 0) ∧ RefAt w' q (rcrashD r k) O a b ca cb (.slice none 0 0) kv ∧ Turn O w w' := by
  have HO : Hid (O q ∧ O a ∧ O b ∧ q < w.heap.size ∧ a < w.heap.size ∧ b < w.heap.size) := h.q_
  obtain ⟨-, -, -, c3, -⟩ := h.c
  rw [ho] at c3
  have HI0 : Hid (InRc w q r O a b ca cb cv kv k 0 w) := ⟨h, Turn.refl _ _⟩
  have HKA : Hid (∀ (m : Nat) (wr : World) (n : Int), InRc w q r O a b ca cb cv kv k m wr → ∀ j, k[j]? = some n → ∃ gk ok, ka = some ⟨gk, ok, none⟩ ∧ wr.cell? ⟨gk, ok + j, none⟩ = some (.int .i64 n)) := fun m wr n hI j hj => by
    obtain ⟨x, c, e, hh⟩ := hk
    obtain ⟨gk, ok, e2, hc⟩ := hh j n hj
    have e3 : ka = x := by simpa using (congrArg (fun v => match v with | Value.slice a _ _ => a | _ => none) e)
    refine ⟨gk, ok, e3.trans e2, ?_⟩
    rw [← hc]
    have hlt := World.block_lt_of_cell? w _ hc
    refine World.cell?_of_block (hI.turn.block gk hlt fun hO => ?_)
    have := hkb (by rintro rfl; simp at hj) gk (by rw [e3, e2]; rfl) hlt
    rcases hO with hO | hO
    · exact this.1 hO
    · exact this.2 hO
  have hsm := h.small
  have hinr := h.inr
  have HIn : Hid (∀ x ∈ r.acts, 0 ≤ x.bl ∧ x.bl < r.st.length ∧ (x.er = false → x.da.length = 128)) := hinr
  have HEq : Hid (rcrashD r k = { r with st := (rcrashN r.st r.da r.acts k r.acts.length).1, da := (rcrashN r.st r.da r.acts k r.acts.length).2, acts := [], off := true, fails := false }) := rfl
  obtain ⟨xa, xc, hcv⟩ := h.sl
  clear h hk hkb hinr
  go_enter Try.func42, Try.ntmps42
  go_wp2
  go_loopw [5] (fun i wr => ∃ m : Nat, m ≤ r.acts.length ∧ i = .int .i64 m ∧ InRc w q r O a b ca cb cv kv k m wr) (fun i _ => r.acts.length - (intOf i).toNat)
  case atStart => exact ⟨0, Nat.zero_le _, rfl, HI0.out⟩
  case round =>
    obtain ⟨m, hm, rfl, hI⟩ := hrel
    clear c3 HI0
    have hD := hI.dev
    obtain ⟨c0, c1, c2, -⟩ := hD.c
    by_cases hlt : m < r.acts.length
    · obtain ⟨x, hx⟩ : ∃ x, r.acts[m]? = some x := ⟨_, List.getElem?_eq_getElem hlt⟩
      obtain ⟨g, c, rfl, hrg⟩ := hD.range hx
      obtain ⟨hx0, hx1, hx2⟩ := HIn.out x (List.mem_of_getElem? hx)
      have hlt2 : (m : Int) < (r.acts.length : Int) := by omega
      have HRg : Hid (wr.rangeAt g (m * 3) (raC x)) := hrg
      have HIC : Hid ((Try.prog.info? 111).map (·.size) = some (raC x).length) := by show _ = some 3; kernel_rfl
      have HI3 : Hid ((Try.prog.info? 111).map (·.size) = some 3) := by show _ = some 3; kernel_rfl
      have HOne : Hid ((raC x).toArray.all (·.oneCell') = true) := by show _ = _; simp [raC, Value.oneCell']
      have HX : Hid (r.acts[m]? = some x) := hx
      have HI : Hid _ := hI
      obtain ⟨nk, hnk⟩ : ∃ nk, k.getD m 0 = nk := ⟨_, rfl⟩
      have HNK : Hid (k.getD m 0 = nk) := hnk
      have hkc : m < k.length → ∃ gk ok, ka = some ⟨gk, ok, none⟩ ∧ wr.cell? ⟨gk, ok + m, none⟩ = some (.int .i64 nk) := fun hl => HKA.out m wr nk hI m (by rw [← hnk, List.getD_eq_getElem?_getD, List.getElem?_eq_getElem hl]; rfl)
      have hk0 : ¬ m < k.length → nk = 0 := fun hl => by rw [← hnk, List.getD_eq_getElem?_getD, List.getElem?_eq_none (by omega)]; rfl
      clear hI hD hrg hx hnk hcv
      unfold raC at HRg HIC HOne
      obtain ⟨nb, hnb⟩ : ∃ nb, nk % 16 = nb := ⟨_, rfl⟩
      have hb0 : 0 ≤ nb := by rw [← hnb]; exact Int.emod_nonneg _ (by decide)
      have hb1 : nb < 16 := by rw [← hnb]; exact Int.emod_lt_of_pos _ (by decide)
      have hbt : bits .and .i64 nk 15 = nb := (mask15 nk).trans hnb
      have HNB : Hid (nk % 16 = nb) := hnb
      clear hnb
      obtain ⟨bl, da, er⟩ := x
      dsimp only at hx0 hx1 hx2 HRg HIC HOne
      obtain ⟨i, rfl⟩ : ∃ i : Nat, bl = i := ⟨bl.toNat, by omega⟩
      obtain ⟨A, hA⟩ : ∃ A, S da = A := ⟨_, rfl⟩
      rw [hA] at HRg HIC HOne
      have HA : Hid (S da = A) := hA
      clear hA
      have hi : i < r.st.length := by omega
      obtain ⟨WB, hWB⟩ : ∃ WB, wr.alloc (.cells #[.int .i64 (i : Int), .string A, .bool er] 111) = WB := ⟨_, rfl⟩
      have hbel : Below wr.heap.size wr WB := by rw [← hWB]; exact (Below.refl _ _).alloc (Nat.le_refl _) _
      have D1 : Hid (InRc w q r O a b ca cb (.slice (some ⟨g, 0, none⟩) r.acts.length c) kv k m WB) := ⟨HI.out.dev.below hbel, HI.out.turn.then_below hbel⟩
      have hbox : WB.heap[wr.heap.size]? = some (.cells #[.int .i64 (i : Int), .string A, .bool er] 111 (0, 0)) := by rw [← hWB]; exact heap_alloc_last _ _
      have HBa : Hid (wr.heap.size ≠ a ∧ wr.heap.size ≠ b) := by
        have h1 := HO.out.2.2.2.2
        have h2 := HI.out.turn.size
        exact ⟨by omega, by omega⟩
      have HBx : Hid (WB.heap[wr.heap.size]? = some (.cells #[.int .i64 (i : Int), .string A, .bool er] 111 (0, 0))) := hbox
      have b0 : WB.cell? ⟨wr.heap.size, 0, none⟩ = some (.int .i64 (i : Int)) := by rw [cell_of_row _ _ _ _ _ _ hbox]; rfl
      have b1 : WB.cell? ⟨wr.heap.size, 1, none⟩ = some (.string A) := by rw [cell_of_row _ _ _ _ _ _ hbox]; rfl
      have b2 : WB.cell? ⟨wr.heap.size, 2, none⟩ = some (.bool er) := by rw [cell_of_row _ _ _ _ _ _ hbox]; rfl
      have hl1 : (rcrashN r.st r.da r.acts k m).1.length = r.st.length := (rcrashN_len _ _ _ _ m).1
      obtain ⟨n, hn⟩ : ∃ n, r.st.length = n := ⟨_, rfl⟩
      have HL : Hid ((rcrashN r.st r.da r.acts k m).1.length = n) := hl1.trans hn
      have hin : i < n := by omega
      have hin2 : (i : Int) < (n : Int) := by omega
      have hn5 : n ≤ 512 := by omega
      have hck : m < k.length → ∃ gk ok, ka = some ⟨gk, ok, none⟩ ∧ wr.cell? ⟨gk, ok + m, none⟩ = some (.int .i64 nk) ∧ WB.cell? ⟨gk, ok + m, none⟩ = some (.int .i64 nk) := fun hl => by
        obtain ⟨gk, ok, e, hc⟩ := hkc hl
        exact ⟨gk, ok, e, hc, by rw [World.cell?_of_block (hbel.block gk (World.block_lt_of_cell? wr _ hc))]; exact hc⟩
      obtain ⟨d0, d1, -⟩ := D1.out.dev.c
      dsimp only at d0 d1 c0 c1
      rw [HL.out] at d0 d1 c0 c1
      clear HI hbel hbox hl1 hi hx1 hkc hn hsm HKA
      rw [← hWB] at b0 b1 b2 d0 d1 D1 HBx hck
      clear hWB
      by_cases hkm : m < k.length
      · obtain ⟨gk, ok, rfl, ck, ck2⟩ := hck hkm
        have hkm2 : (m : Int) < (k.length : Int) := by omega
        clear hk0 hck hkm
        cases er with
        | true =>
          clear hx2
          by_cases ht : nb % 2 = 1
          · have HNX : Hid (rcrashN r.st r.da r.acts k (m + 1) = ((rcrashN r.st r.da r.acts k m).1.set i 2, (rcrashN r.st r.da r.acts k m).2.set i [])) := by
              have := rcrashN_er (st := r.st) (da := r.da) HX.out rfl (by rw [HNK.out, HNB.out]; exact ht)
              show _ = _
              simpa using this
            have t1 : (nb % 2 == 1) = true := by simpa using ht
            clear ht
            go_wp2_with (first | (refine store_last rfl 111 (.tmp 6) (.tmp 27) rfl 3 _ _ _ rfl rfl HI3.out rfl rfl HOne.out ?_) | (refine wpList_load_mid rfl 111 (.tmp 26) rfl g (m * 3) rfl _ _ HRg.out Try.underlying111 rfl HIC.out ?_))
            obtain ⟨WB, hWB⟩ : ∃ WB, wr.alloc (.cells #[.int .i64 (i : Int), .string A, .bool true] 111) = WB := ⟨_, rfl⟩
            rw [hWB] at b0 b1 b2 d0 d1 D1 HBx
            rw [hWB]
            clear hWB ck2 HRg HIC HOne HI3 HBx
            generalize wr.heap.size = B at *
            refine wp_region_held (S := fun w' => w'.cell? ⟨q, 0, none⟩ = some (.slice (some ⟨a, 0, none⟩) n ca) ∧ w'.cell? ⟨q, 1, none⟩ = some (.slice (some ⟨b, 0, none⟩) n cb) ∧ w'.cell? ⟨B, 0, none⟩ = some (.int .i64 (i : Int)) ∧ w'.cell? ⟨B, 1, none⟩ = some (.string A) ∧ w'.cell? ⟨B, 2, none⟩ = some (.bool true)) (by kernel_rfl) ?_
            change wpAnyH _ _ _ _ _ _ _ _ (World.drew _)
            have HS : WB.drew.cell? ⟨q, 0, none⟩ = some (.slice (some ⟨a, 0, none⟩) n ca) ∧ WB.drew.cell? ⟨q, 1, none⟩ = some (.slice (some ⟨b, 0, none⟩) n cb) ∧ WB.drew.cell? ⟨B, 0, none⟩ = some (.int .i64 (i : Int)) ∧ WB.drew.cell? ⟨B, 1, none⟩ = some (.string A) ∧ WB.drew.cell? ⟨B, 2, none⟩ = some (.bool true) := ⟨d0, d1, b0, b1, b2⟩
            replace D1 : Hid (InRc w q r O a b ca cb (.slice (some ⟨g, 0, none⟩) r.acts.length c) kv k m WB.drew) := ⟨D1.out.dev.below (Below.refl _ _).drew, D1.out.turn.drew⟩
            clear d0 d1 b0 b1 b2
            generalize WB.drew = W1 at *
            refine wpAnyH_take (i := 0) (v := .pointer (some ⟨q, 0, none⟩)) rfl (by kernel_rfl) (by kernel_rfl) (by kernel_rfl) (fun _ _ _ h => h) (Or.inl ⟨by rfl, by intro w _; go_simp⟩) HS ?_
            simp only [List.getElem_toArray, List.getElem_cons_succ, List.getElem_cons_zero, Act.put, List.setIfInBounds_toArray, List.set_cons_zero, List.set_cons_succ]
            refine wpAnyH_take (i := 1) (v := .pointer (some ⟨q, 0, none⟩)) rfl (by kernel_rfl) (by kernel_rfl) (by kernel_rfl) (fun _ _ _ h => h) (Or.inl ⟨by rfl, by intro w _; go_simp⟩) HS ?_
            simp only [List.getElem_toArray, List.getElem_cons_succ, List.getElem_cons_zero, Act.put, List.setIfInBounds_toArray, List.set_cons_zero, List.set_cons_succ]
            refine wpAnyH_take (i := 2) (v := .pointer (some ⟨q, 0, none⟩)) rfl (by kernel_rfl) (by kernel_rfl) (by kernel_rfl) (fun _ _ _ h => h) (Or.inl ⟨by rfl, by intro w _; go_simp⟩) HS ?_
            simp only [List.getElem_toArray, List.getElem_cons_succ, List.getElem_cons_zero, Act.put, List.setIfInBounds_toArray, List.set_cons_zero, List.set_cons_succ]
            refine wpAnyH_take (i := 3) (v := .slice (some ⟨a, 0, none⟩) n ca) rfl (by kernel_rfl) (by kernel_rfl) (by kernel_rfl) (fun _ _ _ h => h) (Or.inl ⟨by rfl, by intro w hw; have hw : w.cell? ⟨q, 0, none⟩ = some (.slice (some ⟨a, 0, none⟩) n ca) ∧ w.cell? ⟨q, 1, none⟩ = some (.slice (some ⟨b, 0, none⟩) n cb) ∧ w.cell? ⟨B, 0, none⟩ = some (.int .i64 (i : Int)) ∧ w.cell? ⟨B, 1, none⟩ = some (.string A) ∧ w.cell? ⟨B, 2, none⟩ = some (.bool true) := hw; obtain ⟨hw1, hw2, hw3, hw4, hw5⟩ := hw; go_simp⟩) HS ?_
            simp only [List.getElem_toArray, List.getElem_cons_succ, List.getElem_cons_zero, Act.put, List.setIfInBounds_toArray, List.set_cons_zero, List.set_cons_succ]
            refine wpAnyH_take (i := 4) (v := .pointer (some ⟨B, 0, none⟩)) rfl (by kernel_rfl) (by kernel_rfl) (by kernel_rfl) (fun _ _ _ h => h) (Or.inl ⟨by rfl, by intro w _; go_simp⟩) HS ?_
            simp only [List.getElem_toArray, List.getElem_cons_succ, List.getElem_cons_zero, Act.put, List.setIfInBounds_toArray, List.set_cons_zero, List.set_cons_succ]
            refine wpAnyH_take (i := 5) (v := .int .i64 (i : Int)) rfl (by kernel_rfl) (by kernel_rfl) (by kernel_rfl) (fun _ _ _ h => h) (Or.inl ⟨by rfl, by intro w hw; have hw : w.cell? ⟨q, 0, none⟩ = some (.slice (some ⟨a, 0, none⟩) n ca) ∧ w.cell? ⟨q, 1, none⟩ = some (.slice (some ⟨b, 0, none⟩) n cb) ∧ w.cell? ⟨B, 0, none⟩ = some (.int .i64 (i : Int)) ∧ w.cell? ⟨B, 1, none⟩ = some (.string A) ∧ w.cell? ⟨B, 2, none⟩ = some (.bool true) := hw; obtain ⟨hw1, hw2, hw3, hw4, hw5⟩ := hw; go_simp⟩) HS ?_
            simp only [List.getElem_toArray, List.getElem_cons_succ, List.getElem_cons_zero, Act.put, List.setIfInBounds_toArray, List.set_cons_zero, List.set_cons_succ]
            refine wpAnyH_take (i := 6) (v := .pointer (some ⟨q, 0, none⟩)) rfl (by kernel_rfl) (by kernel_rfl) (by kernel_rfl) (fun _ _ _ h => h) (Or.inl ⟨by rfl, by intro w _; go_simp⟩) HS ?_
            simp only [List.getElem_toArray, List.getElem_cons_succ, List.getElem_cons_zero, Act.put, List.setIfInBounds_toArray, List.set_cons_zero, List.set_cons_succ]
            refine wpAnyH_take (i := 7) (v := .pointer (some ⟨q, 0, none⟩)) rfl (by kernel_rfl) (by kernel_rfl) (by kernel_rfl) (fun _ _ _ h => h) (Or.inl ⟨by rfl, by intro w _; go_simp⟩) HS ?_
            simp only [List.getElem_toArray, List.getElem_cons_succ, List.getElem_cons_zero, Act.put, List.setIfInBounds_toArray, List.set_cons_zero, List.set_cons_succ]
            refine wpAnyH_take (i := 8) (v := .pointer (some ⟨q, 1, none⟩)) rfl (by kernel_rfl) (by kernel_rfl) (by kernel_rfl) (fun _ _ _ h => h) (Or.inl ⟨by rfl, by intro w _; go_simp⟩) HS ?_
            simp only [List.getElem_toArray, List.getElem_cons_succ, List.getElem_cons_zero, Act.put, List.setIfInBounds_toArray, List.set_cons_zero, List.set_cons_succ]
            refine wpAnyH_take (i := 9) (v := .slice (some ⟨b, 0, none⟩) n cb) rfl (by kernel_rfl) (by kernel_rfl) (by kernel_rfl) (fun _ _ _ h => h) (Or.inl ⟨by rfl, by intro w hw; have hw : w.cell? ⟨q, 0, none⟩ = some (.slice (some ⟨a, 0, none⟩) n ca) ∧ w.cell? ⟨q, 1, none⟩ = some (.slice (some ⟨b, 0, none⟩) n cb) ∧ w.cell? ⟨B, 0, none⟩ = some (.int .i64 (i : Int)) ∧ w.cell? ⟨B, 1, none⟩ = some (.string A) ∧ w.cell? ⟨B, 2, none⟩ = some (.bool true) := hw; obtain ⟨hw1, hw2, hw3, hw4, hw5⟩ := hw; go_simp⟩) HS ?_
            simp only [List.getElem_toArray, List.getElem_cons_succ, List.getElem_cons_zero, Act.put, List.setIfInBounds_toArray, List.set_cons_zero, List.set_cons_succ]
            refine wpAnyH_take (i := 10) (v := .pointer (some ⟨B, 0, none⟩)) rfl (by kernel_rfl) (by kernel_rfl) (by kernel_rfl) (fun _ _ _ h => h) (Or.inl ⟨by rfl, by intro w _; go_simp⟩) HS ?_
            simp only [List.getElem_toArray, List.getElem_cons_succ, List.getElem_cons_zero, Act.put, List.setIfInBounds_toArray, List.set_cons_zero, List.set_cons_succ]
            refine wpAnyH_take (i := 11) (v := .int .i64 (i : Int)) rfl (by kernel_rfl) (by kernel_rfl) (by kernel_rfl) (fun _ _ _ h => h) (Or.inl ⟨by rfl, by intro w hw; have hw : w.cell? ⟨q, 0, none⟩ = some (.slice (some ⟨a, 0, none⟩) n ca) ∧ w.cell? ⟨q, 1, none⟩ = some (.slice (some ⟨b, 0, none⟩) n cb) ∧ w.cell? ⟨B, 0, none⟩ = some (.int .i64 (i : Int)) ∧ w.cell? ⟨B, 1, none⟩ = some (.string A) ∧ w.cell? ⟨B, 2, none⟩ = some (.bool true) := hw; obtain ⟨hw1, hw2, hw3, hw4, hw5⟩ := hw; go_simp⟩) HS ?_
            simp only [List.getElem_toArray, List.getElem_cons_succ, List.getElem_cons_zero, Act.put, List.setIfInBounds_toArray, List.set_cons_zero, List.set_cons_succ]
            refine wpAnyH_take (i := 12) (v := .pointer (some ⟨a, i, none⟩)) rfl (by kernel_rfl) (by kernel_rfl) (by kernel_rfl) (fun _ _ _ h => h) (Or.inl ⟨by rfl, by intro w _; go_simp⟩) HS ?_
            simp only [List.getElem_toArray, List.getElem_cons_succ, List.getElem_cons_zero, Act.put, List.setIfInBounds_toArray, List.set_cons_zero, List.set_cons_succ]
            have cA := D1.out.dev.sa (k := i) (by rw [HL.out]; exact hin)
            have fA : W1.frozen? ⟨a, i, none⟩ = false := D1.out.dev.st.frozen i
            dsimp only at cA
            have D2 : Hid _ := D1.out.dev.setSt i (by rw [HL.out]; exact hin) 2
            have HL2 : Hid (((rcrashN r.st r.da r.acts k m).1.set i 2).length = n) := by show _ = _; rw [List.length_set]; exact HL.out
            obtain ⟨W2, hW2⟩ : ∃ W2, W1.setCell ⟨a, i, none⟩ (.int .i64 2) = W2 := ⟨_, rfl⟩
            rw [hW2] at D2
            have HS2 : W2.cell? ⟨q, 0, none⟩ = some (.slice (some ⟨a, 0, none⟩) n ca) ∧ W2.cell? ⟨q, 1, none⟩ = some (.slice (some ⟨b, 0, none⟩) n cb) ∧ W2.cell? ⟨B, 0, none⟩ = some (.int .i64 (i : Int)) ∧ W2.cell? ⟨B, 1, none⟩ = some (.string A) ∧ W2.cell? ⟨B, 2, none⟩ = some (.bool true) := by
              obtain ⟨q0, q1, -⟩ := D2.out.c
              dsimp only at q0 q1
              rw [HL2.out] at q0 q1
              refine ⟨q0, q1, ?_, ?_, ?_⟩ <;> rw [← hW2, World.cell?_of_block (Below.heap_setCell _ _ _ _ HBa.out.1)]
              · exact HS.2.2.1
              · exact HS.2.2.2.1
              · exact HS.2.2.2.2
            have cB := D2.out.dt (k := i) (by show i < (List.set _ _ _).length; rw [HL2.out]; exact hin)
            have fB : W2.frozen? ⟨b, i, none⟩ = false := D2.out.da.frozen i
            dsimp only at cB
            have D3 : Hid (RefAt (W2.setCell ⟨b, i, none⟩ (.string ⟨#[]⟩)) q { r with st := (rcrashN r.st r.da r.acts k m).1.set i 2, da := (rcrashN r.st r.da r.acts k m).2.set i [] } O a b ca cb (.slice (some ⟨g, 0, none⟩) r.acts.length c) kv) := D2.out.setDa i (by show i < (List.set _ _ _).length; rw [HL2.out]; exact hin) []
            have HS3 : (W2.setCell ⟨b, i, none⟩ (.string ⟨#[]⟩)).cell? ⟨q, 0, none⟩ = some (.slice (some ⟨a, 0, none⟩) n ca) ∧ (W2.setCell ⟨b, i, none⟩ (.string ⟨#[]⟩)).cell? ⟨q, 1, none⟩ = some (.slice (some ⟨b, 0, none⟩) n cb) ∧ (W2.setCell ⟨b, i, none⟩ (.string ⟨#[]⟩)).cell? ⟨B, 0, none⟩ = some (.int .i64 (i : Int)) ∧ (W2.setCell ⟨b, i, none⟩ (.string ⟨#[]⟩)).cell? ⟨B, 1, none⟩ = some (.string A) ∧ (W2.setCell ⟨b, i, none⟩ (.string ⟨#[]⟩)).cell? ⟨B, 2, none⟩ = some (.bool true) := by
              obtain ⟨q0, q1, -⟩ := D3.out.c
              dsimp only at q0 q1
              rw [HL2.out] at q0 q1
              refine ⟨q0, q1, ?_, ?_, ?_⟩ <;> rw [World.cell?_of_block (Below.heap_setCell _ _ _ _ HBa.out.2)]
              · exact HS2.2.2.1
              · exact HS2.2.2.2.1
              · exact HS2.2.2.2.2
            have HT3 : Hid (Turn (fun i => i = a ∨ i = b) w (W2.setCell ⟨b, i, none⟩ (.string ⟨#[]⟩))) := by
              rw [← hW2]
              exact (D1.out.turn.setCell (.inl rfl) _).setCell (.inr rfl) _
            have HW2 : Hid _ := hW2
            clear hW2
            refine wpAnyH_ready (rs := [13]) (by kernel_rfl) (by simp) (AllReadyH.cons (by simp only [List.getElem?_toArray, List.getElem?_cons_succ, List.getElem?_cons_zero]; rfl) (fun K hK => ?_) AllReadyH.nil)
            refine step_plain rfl ?_
            go_simp
            rw [HW2.out]
            refine hK.out _ _ HS2 (fun _ => ?_)
            clear hK K
            try simp only [List.getElem_toArray, List.getElem_cons_succ, List.getElem_cons_zero, Act.put, List.setIfInBounds_toArray, List.set_cons_zero, List.set_cons_succ]
            refine wpAnyH_take (i := 14) (v := .pointer (some ⟨b, i, none⟩)) rfl (by kernel_rfl) (by kernel_rfl) (by kernel_rfl) (fun _ _ _ h => h) (Or.inl ⟨by rfl, by intro w _; go_simp⟩) HS2 ?_
            simp only [List.getElem_toArray, List.getElem_cons_succ, List.getElem_cons_zero, Act.put, List.setIfInBounds_toArray, List.set_cons_zero, List.set_cons_succ]
            refine wpAnyH_ready (rs := [15]) (by kernel_rfl) (by simp) (AllReadyH.cons (by simp only [List.getElem?_toArray, List.getElem?_cons_succ, List.getElem?_cons_zero]; rfl) (fun K hK => ?_) AllReadyH.nil)
            refine step_plain rfl ?_
            go_simp
            refine hK.out _ _ HS3 (fun _ => ?_)
            clear hK K
            try simp only [List.getElem_toArray, List.getElem_cons_succ, List.getElem_cons_zero, Act.put, List.setIfInBounds_toArray, List.set_cons_zero, List.set_cons_succ]
            generalize W2.setCell ⟨b, i, none⟩ (.string ⟨#[]⟩) = W3 at *
            refine wpAnyH_done (by kernel_rfl) ?_ _
            have HIN : Hid (InRc w q r O a b ca cb (.slice (some ⟨g, 0, none⟩) r.acts.length c) kv k (m + 1) W3) := ⟨by rw [HNX.out]; exact D3.out, HT3.out⟩
            have b2 := HS3.2.2.2.2
            clear D1 D2 D3 HT3 HNX HS HS2 HS3 cA cB fA fB HW2
            go_wp2
            go_roundw
            case rel => exact ⟨m + 1, by omega, by go_num, HIN.out⟩
            case measure => simp [intOf]; omega
          · have HNX : Hid (rcrashN r.st r.da r.acts k (m + 1) = rcrashN r.st r.da r.acts k m) := rcrashN_er0 HX.out rfl (by rw [HNK.out, HNB.out]; exact ht)
            have t1 : (nb % 2 == 1) = false := by simpa using ht
            clear ht
            go_wp2_with (first | (refine store_last rfl 111 (.tmp 6) (.tmp 27) rfl 3 _ _ _ rfl rfl HI3.out rfl rfl HOne.out ?_) | (refine wpList_load_mid rfl 111 (.tmp 26) rfl g (m * 3) rfl _ _ HRg.out Try.underlying111 rfl HIC.out ?_))
            go_roundw
            case rel => exact ⟨m + 1, by omega, by go_num, by rw [HNX.out]; exact D1.out.dev, D1.out.turn⟩
            case measure => simp [intOf]; omega
        | false =>
          by_cases ht : 0 < nb
          · have HNX : Hid (rcrashN r.st r.da r.acts k (m + 1) = ((rcrashN r.st r.da r.acts k m).1.set i 1, (rcrashN r.st r.da r.acts k m).2.set i (tornN da nb 4))) := by
              have := rcrashN_wr (st := r.st) (da := r.da) HX.out rfl (by rw [HNK.out, HNB.out]; exact ht)
              rw [HNK.out, HNB.out] at this
              show _ = _
              simpa using this
            have HTo : Hid (∀ w : World, Calls Try.prog 65 #[.string A, .int .i64 nb] w fun e w' => e = .returned (.string (S (tornN da nb 4))) ∧ Below w.heap.size w w') := fun w => by rw [← HA.out]; exact rtorn_any da (hx2 rfl) nb hb0 w
            clear hx2
            go_wp2_with (first | (refine store_last rfl 111 (.tmp 6) (.tmp 27) rfl 3 _ _ _ rfl rfl HI3.out rfl rfl HOne.out ?_) | (refine wpList_load_mid rfl 111 (.tmp 26) rfl g (m * 3) rfl _ _ HRg.out Try.underlying111 rfl HIC.out ?_))
            obtain ⟨WB, hWB⟩ : ∃ WB, wr.alloc (.cells #[.int .i64 (i : Int), .string A, .bool false] 111) = WB := ⟨_, rfl⟩
            rw [hWB] at b0 b1 b2 d0 d1 D1 HBx
            rw [hWB]
            have HBx0 : Hid _ := HBx.out
            clear hWB ck2 HRg HIC HOne HI3 HBx
            generalize wr.heap.size = B at *
            refine wp_region_held (S := fun w' => w'.cell? ⟨q, 0, none⟩ = some (.slice (some ⟨a, 0, none⟩) n ca) ∧ w'.cell? ⟨q, 1, none⟩ = some (.slice (some ⟨b, 0, none⟩) n cb) ∧ w'.cell? ⟨B, 0, none⟩ = some (.int .i64 (i : Int)) ∧ w'.cell? ⟨B, 1, none⟩ = some (.string A) ∧ w'.cell? ⟨B, 2, none⟩ = some (.bool false)) (by kernel_rfl) ?_
            change wpAnyH _ _ _ _ _ _ _ _ (World.drew _)
            have HS : WB.drew.cell? ⟨q, 0, none⟩ = some (.slice (some ⟨a, 0, none⟩) n ca) ∧ WB.drew.cell? ⟨q, 1, none⟩ = some (.slice (some ⟨b, 0, none⟩) n cb) ∧ WB.drew.cell? ⟨B, 0, none⟩ = some (.int .i64 (i : Int)) ∧ WB.drew.cell? ⟨B, 1, none⟩ = some (.string A) ∧ WB.drew.cell? ⟨B, 2, none⟩ = some (.bool false) := ⟨d0, d1, b0, b1, b2⟩
            replace D1 : Hid (InRc w q r O a b ca cb (.slice (some ⟨g, 0, none⟩) r.acts.length c) kv k m WB.drew) := ⟨D1.out.dev.below (Below.refl _ _).drew, D1.out.turn.drew⟩
            have HBl : Hid (B < WB.drew.heap.size) := row_lt HBx0.out
            clear d0 d1 b0 b1 b2
            generalize WB.drew = W0 at *
            refine wpAnyH_take (i := 0) (v := .pointer (some ⟨q, 0, none⟩)) rfl (by kernel_rfl) (by kernel_rfl) (by kernel_rfl) (fun _ _ _ h => h) (Or.inl ⟨by rfl, by intro w _; go_simp⟩) HS ?_
            simp only [List.getElem_toArray, List.getElem_cons_succ, List.getElem_cons_zero, Act.put, List.setIfInBounds_toArray, List.set_cons_zero, List.set_cons_succ]
            refine wpAnyH_take (i := 1) (v := .pointer (some ⟨q, 0, none⟩)) rfl (by kernel_rfl) (by kernel_rfl) (by kernel_rfl) (fun _ _ _ h => h) (Or.inl ⟨by rfl, by intro w _; go_simp⟩) HS ?_
            simp only [List.getElem_toArray, List.getElem_cons_succ, List.getElem_cons_zero, Act.put, List.setIfInBounds_toArray, List.set_cons_zero, List.set_cons_succ]
            refine wpAnyH_take (i := 2) (v := .pointer (some ⟨q, 0, none⟩)) rfl (by kernel_rfl) (by kernel_rfl) (by kernel_rfl) (fun _ _ _ h => h) (Or.inl ⟨by rfl, by intro w _; go_simp⟩) HS ?_
            simp only [List.getElem_toArray, List.getElem_cons_succ, List.getElem_cons_zero, Act.put, List.setIfInBounds_toArray, List.set_cons_zero, List.set_cons_succ]
            refine wpAnyH_take (i := 3) (v := .slice (some ⟨a, 0, none⟩) n ca) rfl (by kernel_rfl) (by kernel_rfl) (by kernel_rfl) (fun _ _ _ h => h) (Or.inl ⟨by rfl, by intro w hw; have hw : w.cell? ⟨q, 0, none⟩ = some (.slice (some ⟨a, 0, none⟩) n ca) ∧ w.cell? ⟨q, 1, none⟩ = some (.slice (some ⟨b, 0, none⟩) n cb) ∧ w.cell? ⟨B, 0, none⟩ = some (.int .i64 (i : Int)) ∧ w.cell? ⟨B, 1, none⟩ = some (.string A) ∧ w.cell? ⟨B, 2, none⟩ = some (.bool false) := hw; obtain ⟨hw1, hw2, hw3, hw4, hw5⟩ := hw; go_simp⟩) HS ?_
            simp only [List.getElem_toArray, List.getElem_cons_succ, List.getElem_cons_zero, Act.put, List.setIfInBounds_toArray, List.set_cons_zero, List.set_cons_succ]
            refine wpAnyH_take (i := 4) (v := .pointer (some ⟨B, 0, none⟩)) rfl (by kernel_rfl) (by kernel_rfl) (by kernel_rfl) (fun _ _ _ h => h) (Or.inl ⟨by rfl, by intro w _; go_simp⟩) HS ?_
            simp only [List.getElem_toArray, List.getElem_cons_succ, List.getElem_cons_zero, Act.put, List.setIfInBounds_toArray, List.set_cons_zero, List.set_cons_succ]
            refine wpAnyH_take (i := 5) (v := .int .i64 (i : Int)) rfl (by kernel_rfl) (by kernel_rfl) (by kernel_rfl) (fun _ _ _ h => h) (Or.inl ⟨by rfl, by intro w hw; have hw : w.cell? ⟨q, 0, none⟩ = some (.slice (some ⟨a, 0, none⟩) n ca) ∧ w.cell? ⟨q, 1, none⟩ = some (.slice (some ⟨b, 0, none⟩) n cb) ∧ w.cell? ⟨B, 0, none⟩ = some (.int .i64 (i : Int)) ∧ w.cell? ⟨B, 1, none⟩ = some (.string A) ∧ w.cell? ⟨B, 2, none⟩ = some (.bool false) := hw; obtain ⟨hw1, hw2, hw3, hw4, hw5⟩ := hw; go_simp⟩) HS ?_
            simp only [List.getElem_toArray, List.getElem_cons_succ, List.getElem_cons_zero, Act.put, List.setIfInBounds_toArray, List.set_cons_zero, List.set_cons_succ]
            refine wpAnyH_take (i := 6) (v := .pointer (some ⟨q, 0, none⟩)) rfl (by kernel_rfl) (by kernel_rfl) (by kernel_rfl) (fun _ _ _ h => h) (Or.inl ⟨by rfl, by intro w _; go_simp⟩) HS ?_
            simp only [List.getElem_toArray, List.getElem_cons_succ, List.getElem_cons_zero, Act.put, List.setIfInBounds_toArray, List.set_cons_zero, List.set_cons_succ]
            refine wpAnyH_take (i := 7) (v := .pointer (some ⟨q, 0, none⟩)) rfl (by kernel_rfl) (by kernel_rfl) (by kernel_rfl) (fun _ _ _ h => h) (Or.inl ⟨by rfl, by intro w _; go_simp⟩) HS ?_
            simp only [List.getElem_toArray, List.getElem_cons_succ, List.getElem_cons_zero, Act.put, List.setIfInBounds_toArray, List.set_cons_zero, List.set_cons_succ]
            refine wpAnyH_take (i := 8) (v := .pointer (some ⟨q, 1, none⟩)) rfl (by kernel_rfl) (by kernel_rfl) (by kernel_rfl) (fun _ _ _ h => h) (Or.inl ⟨by rfl, by intro w _; go_simp⟩) HS ?_
            simp only [List.getElem_toArray, List.getElem_cons_succ, List.getElem_cons_zero, Act.put, List.setIfInBounds_toArray, List.set_cons_zero, List.set_cons_succ]
            refine wpAnyH_take (i := 9) (v := .slice (some ⟨b, 0, none⟩) n cb) rfl (by kernel_rfl) (by kernel_rfl) (by kernel_rfl) (fun _ _ _ h => h) (Or.inl ⟨by rfl, by intro w hw; have hw : w.cell? ⟨q, 0, none⟩ = some (.slice (some ⟨a, 0, none⟩) n ca) ∧ w.cell? ⟨q, 1, none⟩ = some (.slice (some ⟨b, 0, none⟩) n cb) ∧ w.cell? ⟨B, 0, none⟩ = some (.int .i64 (i : Int)) ∧ w.cell? ⟨B, 1, none⟩ = some (.string A) ∧ w.cell? ⟨B, 2, none⟩ = some (.bool false) := hw; obtain ⟨hw1, hw2, hw3, hw4, hw5⟩ := hw; go_simp⟩) HS ?_
            simp only [List.getElem_toArray, List.getElem_cons_succ, List.getElem_cons_zero, Act.put, List.setIfInBounds_toArray, List.set_cons_zero, List.set_cons_succ]
            refine wpAnyH_take (i := 10) (v := .pointer (some ⟨B, 0, none⟩)) rfl (by kernel_rfl) (by kernel_rfl) (by kernel_rfl) (fun _ _ _ h => h) (Or.inl ⟨by rfl, by intro w _; go_simp⟩) HS ?_
            simp only [List.getElem_toArray, List.getElem_cons_succ, List.getElem_cons_zero, Act.put, List.setIfInBounds_toArray, List.set_cons_zero, List.set_cons_succ]
            refine wpAnyH_take (i := 11) (v := .int .i64 (i : Int)) rfl (by kernel_rfl) (by kernel_rfl) (by kernel_rfl) (fun _ _ _ h => h) (Or.inl ⟨by rfl, by intro w hw; have hw : w.cell? ⟨q, 0, none⟩ = some (.slice (some ⟨a, 0, none⟩) n ca) ∧ w.cell? ⟨q, 1, none⟩ = some (.slice (some ⟨b, 0, none⟩) n cb) ∧ w.cell? ⟨B, 0, none⟩ = some (.int .i64 (i : Int)) ∧ w.cell? ⟨B, 1, none⟩ = some (.string A) ∧ w.cell? ⟨B, 2, none⟩ = some (.bool false) := hw; obtain ⟨hw1, hw2, hw3, hw4, hw5⟩ := hw; go_simp⟩) HS ?_
            simp only [List.getElem_toArray, List.getElem_cons_succ, List.getElem_cons_zero, Act.put, List.setIfInBounds_toArray, List.set_cons_zero, List.set_cons_succ]
            refine wpAnyH_take (i := 12) (v := .pointer (some ⟨B, 1, none⟩)) rfl (by kernel_rfl) (by kernel_rfl) (by kernel_rfl) (fun _ _ _ h => h) (Or.inl ⟨by rfl, by intro w _; go_simp⟩) HS ?_
            simp only [List.getElem_toArray, List.getElem_cons_succ, List.getElem_cons_zero, Act.put, List.setIfInBounds_toArray, List.set_cons_zero, List.set_cons_succ]
            refine wpAnyH_take (i := 13) (v := .string A) rfl (by kernel_rfl) (by kernel_rfl) (by kernel_rfl) (fun _ _ _ h => h) (Or.inl ⟨by rfl, by intro w hw; have hw : w.cell? ⟨q, 0, none⟩ = some (.slice (some ⟨a, 0, none⟩) n ca) ∧ w.cell? ⟨q, 1, none⟩ = some (.slice (some ⟨b, 0, none⟩) n cb) ∧ w.cell? ⟨B, 0, none⟩ = some (.int .i64 (i : Int)) ∧ w.cell? ⟨B, 1, none⟩ = some (.string A) ∧ w.cell? ⟨B, 2, none⟩ = some (.bool false) := hw; obtain ⟨hw1, hw2, hw3, hw4, hw5⟩ := hw; go_simp⟩) HS ?_
            simp only [List.getElem_toArray, List.getElem_cons_succ, List.getElem_cons_zero, Act.put, List.setIfInBounds_toArray, List.set_cons_zero, List.set_cons_succ]
            refine wpAnyH_take (i := 14) (v := .int .i64 nb) rfl (by kernel_rfl) (by kernel_rfl) (by kernel_rfl) (fun _ _ _ h => h) (Or.inl ⟨by rfl, by intro w _; go_simp⟩) HS ?_
            simp only [List.getElem_toArray, List.getElem_cons_succ, List.getElem_cons_zero, Act.put, List.setIfInBounds_toArray, List.set_cons_zero, List.set_cons_succ]
            refine wpAnyH_ready (rs := [15]) (by kernel_rfl) (by simp) (AllReadyH.cons (by simp only [List.getElem?_toArray, List.getElem?_cons_succ, List.getElem?_cons_zero]; rfl) (fun K hK => ?_) AllReadyH.nil)
            refine step_plain rfl ?_
            go_simp
            refine (HTo.out _).mono ?_
            rintro e W1 ⟨rfl, hb1⟩
            replace D1 : Hid (InRc w q r O a b ca cb (.slice (some ⟨g, 0, none⟩) r.acts.length c) kv k m W1) := ⟨D1.out.dev.below hb1, D1.out.turn.then_below hb1⟩
            replace HS : W1.cell? ⟨q, 0, none⟩ = some (.slice (some ⟨a, 0, none⟩) n ca) ∧ W1.cell? ⟨q, 1, none⟩ = some (.slice (some ⟨b, 0, none⟩) n cb) ∧ W1.cell? ⟨B, 0, none⟩ = some (.int .i64 (i : Int)) ∧ W1.cell? ⟨B, 1, none⟩ = some (.string A) ∧ W1.cell? ⟨B, 2, none⟩ = some (.bool false) := by
              obtain ⟨q0, q1, -⟩ := D1.out.dev.c
              dsimp only at q0 q1
              rw [HL.out] at q0 q1
              refine ⟨q0, q1, ?_, ?_, ?_⟩ <;> rw [World.cell?_of_block (hb1.block B HBl.out)]
              · exact HS.2.2.1
              · exact HS.2.2.2.1
              · exact HS.2.2.2.2
            clear hb1 HTo
            refine hK.out _ _ HS (fun _ => ?_)
            clear hK K
            try simp only [List.getElem_toArray, List.getElem_cons_succ, List.getElem_cons_zero, Act.put, List.setIfInBounds_toArray, List.set_cons_zero, List.set_cons_succ]
            obtain ⟨TT, hTT⟩ : ∃ TT, tornN da nb 4 = TT := ⟨_, rfl⟩
            rw [hTT] at HNX
            rw [hTT]
            clear hTT
            refine wpAnyH_take (i := 16) (v := .pointer (some ⟨a, i, none⟩)) rfl (by kernel_rfl) (by kernel_rfl) (by kernel_rfl) (fun _ _ _ h => h) (Or.inl ⟨by rfl, by intro w _; go_simp⟩) HS ?_
            simp only [List.getElem_toArray, List.getElem_cons_succ, List.getElem_cons_zero, Act.put, List.setIfInBounds_toArray, List.set_cons_zero, List.set_cons_succ]
            have cA := D1.out.dev.sa (k := i) (by rw [HL.out]; exact hin)
            have fA : W1.frozen? ⟨a, i, none⟩ = false := D1.out.dev.st.frozen i
            dsimp only at cA
            have D2 : Hid _ := D1.out.dev.setSt i (by rw [HL.out]; exact hin) 1
            have HL2 : Hid (((rcrashN r.st r.da r.acts k m).1.set i 1).length = n) := by show _ = _; rw [List.length_set]; exact HL.out
            obtain ⟨W2, hW2⟩ : ∃ W2, W1.setCell ⟨a, i, none⟩ (.int .i64 1) = W2 := ⟨_, rfl⟩
            rw [hW2] at D2
            have HS2 : W2.cell? ⟨q, 0, none⟩ = some (.slice (some ⟨a, 0, none⟩) n ca) ∧ W2.cell? ⟨q, 1, none⟩ = some (.slice (some ⟨b, 0, none⟩) n cb) ∧ W2.cell? ⟨B, 0, none⟩ = some (.int .i64 (i : Int)) ∧ W2.cell? ⟨B, 1, none⟩ = some (.string A) ∧ W2.cell? ⟨B, 2, none⟩ = some (.bool false) := by
              obtain ⟨q0, q1, -⟩ := D2.out.c
              dsimp only at q0 q1
              rw [HL2.out] at q0 q1
              refine ⟨q0, q1, ?_, ?_, ?_⟩ <;> rw [← hW2, World.cell?_of_block (Below.heap_setCell _ _ _ _ HBa.out.1)]
              · exact HS.2.2.1
              · exact HS.2.2.2.1
              · exact HS.2.2.2.2
            have cB := D2.out.dt (k := i) (by show i < (List.set _ _ _).length; rw [HL2.out]; exact hin)
            have fB : W2.frozen? ⟨b, i, none⟩ = false := D2.out.da.frozen i
            dsimp only at cB
            have D3 : Hid (RefAt (W2.setCell ⟨b, i, none⟩ (.string (S TT))) q { r with st := (rcrashN r.st r.da r.acts k m).1.set i 1, da := (rcrashN r.st r.da r.acts k m).2.set i TT } O a b ca cb (.slice (some ⟨g, 0, none⟩) r.acts.length c) kv) := D2.out.setDa i (by show i < (List.set _ _ _).length; rw [HL2.out]; exact hin) TT
            have HS3 : (W2.setCell ⟨b, i, none⟩ (.string (S TT))).cell? ⟨q, 0, none⟩ = some (.slice (some ⟨a, 0, none⟩) n ca) ∧ (W2.setCell ⟨b, i, none⟩ (.string (S TT))).cell? ⟨q, 1, none⟩ = some (.slice (some ⟨b, 0, none⟩) n cb) ∧ (W2.setCell ⟨b, i, none⟩ (.string (S TT))).cell? ⟨B, 0, none⟩ = some (.int .i64 (i : Int)) ∧ (W2.setCell ⟨b, i, none⟩ (.string (S TT))).cell? ⟨B, 1, none⟩ = some (.string A) ∧ (W2.setCell ⟨b, i, none⟩ (.string (S TT))).cell? ⟨B, 2, none⟩ = some (.bool false) := by
              obtain ⟨q0, q1, -⟩ := D3.out.c
              dsimp only at q0 q1
              rw [HL2.out] at q0 q1
              refine ⟨q0, q1, ?_, ?_, ?_⟩ <;> rw [World.cell?_of_block (Below.heap_setCell _ _ _ _ HBa.out.2)]
              · exact HS2.2.2.1
              · exact HS2.2.2.2.1
              · exact HS2.2.2.2.2
            have HT3 : Hid (Turn (fun i => i = a ∨ i = b) w (W2.setCell ⟨b, i, none⟩ (.string (S TT)))) := by
              rw [← hW2]
              exact (D1.out.turn.setCell (.inl rfl) _).setCell (.inr rfl) _
            have HW2 : Hid _ := hW2
            clear hW2
            refine wpAnyH_ready (rs := [17]) (by kernel_rfl) (by simp) (AllReadyH.cons (by simp only [List.getElem?_toArray, List.getElem?_cons_succ, List.getElem?_cons_zero]; rfl) (fun K hK => ?_) AllReadyH.nil)
            refine step_plain rfl ?_
            go_simp
            rw [HW2.out]
            refine hK.out _ _ HS2 (fun _ => ?_)
            clear hK K
            try simp only [List.getElem_toArray, List.getElem_cons_succ, List.getElem_cons_zero, Act.put, List.setIfInBounds_toArray, List.set_cons_zero, List.set_cons_succ]
            refine wpAnyH_take (i := 18) (v := .pointer (some ⟨b, i, none⟩)) rfl (by kernel_rfl) (by kernel_rfl) (by kernel_rfl) (fun _ _ _ h => h) (Or.inl ⟨by rfl, by intro w _; go_simp⟩) HS2 ?_
            simp only [List.getElem_toArray, List.getElem_cons_succ, List.getElem_cons_zero, Act.put, List.setIfInBounds_toArray, List.set_cons_zero, List.set_cons_succ]
            refine wpAnyH_ready (rs := [19]) (by kernel_rfl) (by simp) (AllReadyH.cons (by simp only [List.getElem?_toArray, List.getElem?_cons_succ, List.getElem?_cons_zero]; rfl) (fun K hK => ?_) AllReadyH.nil)
            refine step_plain rfl ?_
            go_simp
            refine hK.out _ _ HS3 (fun _ => ?_)
            clear hK K
            try simp only [List.getElem_toArray, List.getElem_cons_succ, List.getElem_cons_zero, Act.put, List.setIfInBounds_toArray, List.set_cons_zero, List.set_cons_succ]
            generalize W2.setCell ⟨b, i, none⟩ (.string (S TT)) = W3 at *
            refine wpAnyH_done (by kernel_rfl) ?_ _
            have HIN : Hid (InRc w q r O a b ca cb (.slice (some ⟨g, 0, none⟩) r.acts.length c) kv k (m + 1) W3) := ⟨by rw [HNX.out]; exact D3.out, HT3.out⟩
            have b2 := HS3.2.2.2.2
            clear D1 D2 D3 HT3 HNX HS HS2 HS3 cA cB fA fB HW2
            go_wp2
            go_roundw
            case rel => exact ⟨m + 1, by omega, by go_num, HIN.out⟩
            case measure => simp [intOf]; omega
          · have HNX : Hid (rcrashN r.st r.da r.acts k (m + 1) = rcrashN r.st r.da r.acts k m) := rcrashN_wr0 HX.out rfl (by rw [HNK.out, HNB.out]; exact ht)
            go_wp2_with (first | (refine store_last rfl 111 (.tmp 6) (.tmp 27) rfl 3 _ _ _ rfl rfl HI3.out rfl rfl HOne.out ?_) | (refine wpList_load_mid rfl 111 (.tmp 26) rfl g (m * 3) rfl _ _ HRg.out Try.underlying111 rfl HIC.out ?_))
            go_roundw
            case rel => exact ⟨m + 1, by omega, by go_num, by rw [HNX.out]; exact D1.out.dev, D1.out.turn⟩
            case measure => simp [intOf]; omega
      · have hkm2 : ¬ (m : Int) < (k.length : Int) := by omega
        have hz := hk0 hkm
        have HZ : Hid (nk % 16 = 0) := by show _ = _; rw [hz]; rfl
        have HNX : Hid (rcrashN r.st r.da r.acts k (m + 1) = rcrashN r.st r.da r.acts k m) := by
          cases er with
          | true => exact rcrashN_er0 HX.out rfl (by rw [HNK.out, HZ.out]; decide)
          | false => exact rcrashN_wr0 HX.out rfl (by rw [HNK.out, HZ.out]; decide)
        clear hk0 hck hz hkm hx2 hbt
        cases er with
        | true =>
          go_wp2_with (first | (refine store_last rfl 111 (.tmp 6) (.tmp 27) rfl 3 _ _ _ rfl rfl HI3.out rfl rfl HOne.out ?_) | (refine wpList_load_mid rfl 111 (.tmp 26) rfl g (m * 3) rfl _ _ HRg.out Try.underlying111 rfl HIC.out ?_))
          go_roundw
          case rel => exact ⟨m + 1, by omega, by go_num, by rw [HNX.out]; exact D1.out.dev, D1.out.turn⟩
          case measure => simp [intOf]; omega
        | false =>
          go_wp2_with (first | (refine store_last rfl 111 (.tmp 6) (.tmp 27) rfl 3 _ _ _ rfl rfl HI3.out rfl rfl HOne.out ?_) | (refine wpList_load_mid rfl 111 (.tmp 26) rfl g (m * 3) rfl _ _ HRg.out Try.underlying111 rfl HIC.out ?_))
          go_roundw
          case rel => exact ⟨m + 1, by omega, by go_num, by rw [HNX.out]; exact D1.out.dev, D1.out.turn⟩
          case measure => simp [intOf]; omega
    · obtain rfl : m = r.acts.length := by omega
      subst hcv
      have hlt2 : ¬ ((r.acts.length : Nat) : Int) < (r.acts.length : Int) := by omega
      have f2 : wr.frozen? ⟨q, 2, none⟩ = false := frozen_of_row _ _ _ _ _ hD.cells
      have f3 : wr.frozen? ⟨q, 3, none⟩ = false := frozen_of_row _ _ _ _ _ hD.cells
      have f5 : wr.frozen? ⟨q, 5, none⟩ = false := frozen_of_row _ _ _ _ _ hD.cells
      obtain ⟨-, -, -, c3, -, c5, -⟩ := hD.c
      have HD : Hid _ := hD.closed
      have HT : Hid (Turn O w wr) := ⟨hI.turn.os, hI.turn.tape, hI.turn.output, hI.turn.size, fun k hk hn => hI.turn.block k hk fun e => hn (by rcases e with e | e; rw [e]; exact HO.out.2.1; rw [e]; exact HO.out.2.2.1)⟩
      clear hI hD c0 c1 HKA
      go_wp2
      go_ret
      exact ⟨rfl, HD.out, ((HT.out.setCell HO.out.1 _).setCell HO.out.1 _).setCell HO.out.1 _⟩
end Go.Proofs.Ythlaackalmgfnaa
