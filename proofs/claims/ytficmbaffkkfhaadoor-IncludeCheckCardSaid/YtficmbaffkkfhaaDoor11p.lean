/- The document's own proof of a leaf (layer 11). -/
import Derived.Test.YtficmbaffkkfhaaDoor11g
import Derived.Test.YtficmbaffkkfhaaDoorR9f
namespace Go.Proofs.YtficmbaffkkfhaaDoor
open Go.RowKit

theorem rprove_no {w : World} {a : Option Addr} {m c : Nat} (i : Int) (hi : ¬ (0 ≤ i ∧ i < (m : Int))) : Calls Tryd.prog 10 #[.slice a m c, .int .i64 i] w fun e w' => e = .returned (.tuple #[.slice none 0 0, .int .i64 2]) ∧ w' = w := by
  by_cases h0 : i < 0
  · clear hi
    go_enter Tryd.func10, Tryd.ntmps10
    go_wp2
    go_ret2
    exact ⟨rfl, rfl⟩
  · have h1 : i ≥ (m : Int) := by omega
    clear hi
    go_enter Tryd.func10, Tryd.ntmps10
    go_wp2
    go_ret2
    exact ⟨rfl, rfl⟩
set_option maxRecDepth 100000 in
set_option maxHeartbeats 4000000 in
set_option linter.unusedSimpArgs false in
set_option linter.unusedVariables false in
theorem rprove_upto (N : Nat) : ∀ (L : List (List UInt8)) (w : World) (a : Option Addr) (c i : Nat), L.length ≤ N → N ≤ 1000 → i < L.length → TabR w → HsAt w (.slice a L.length c) L → L.length ≤ c →
    Calls Tryd.prog 10 #[.slice a L.length c, .int .i64 (i : Int)] w fun e w' => ∃ a c, e = .returned (.tuple #[.slice a (prH L i).length c, .int .i64 0]) ∧ Mh w w.heap.size (.slice a (prH L i).length c) (prH L i) w' := by
  induction N with
  | zero => intro L w a c i h1 h2 h3; exact absurd h3 (by omega)
  | succ N ih =>
    intro L w a c i hN hM hi hR hL hc
    obtain ⟨m, hm⟩ : ∃ m, L.length = m := ⟨_, rfl⟩
    have k0 : ¬ (i : Int) < 0 := by omega
    have k1 : ¬ (i : Int) ≥ (m : Int) := by omega
    by_cases h1 : L.length = 1
    · have hp : prH L i = [] := pr_one (by omega)
      rw [hp]
      obtain rfl : m = 1 := by omega
      have HM : Hid (Mh w w.heap.size (.slice none 0 0) [] w) := Mh.start w
      rw [hm]
      clear hR hL hN hM hi hc hp hm
      go_enter Tryd.func10, Tryd.ntmps10
      go_wp2
      go_ret2
      exact ⟨none, 0, rfl, HM.out⟩
    · obtain ⟨s1, s2, -⟩ := split_ok (n := L.length) (by omega)
      obtain ⟨k, hk⟩ : ∃ k, splitN L.length = k := ⟨_, rfl⟩
      rw [hk, hm] at s2
      rw [hk] at s1
      have HS : Hid (∀ W, Calls Tryd.prog 23 #[.int .i64 (m : Int)] W fun e w' => e = .returned (.int .i64 (k : Int)) ∧ w' = W) := fun W => by
        have := rsplit_any (m : Int) W (by omega) (by omega)
        rwa [← hm, splitZ_nat, hk, hm] at this
      have k2 : ((m : Int) == 1) = false := by rw [beq_eq_false_iff_ne]; omega
      obtain ⟨x0, hx0⟩ : ∃ x, L[i]? = some x := ⟨_, List.getElem?_eq_getElem hi⟩
      obtain ⟨-, b1, o1, rfl, -⟩ := hL.cells.2 i x0 hx0
      have h32 := hL.len
      rw [hm] at hL hc
      have k3 : (0 : Int) ≤ (k : Int) := by omega
      have k4 : (k : Int) ≤ (m : Int) := by omega
      have k5 : (m : Int) ≤ (c : Int) := by omega
      have k6 : (k : Int) ≤ (c : Int) := by omega
      have hck : ¬ c = k := by omega
      have HRk : Hid (∀ W, Below w.heap.size w W → Calls Tryd.prog 24 #[.slice (some ⟨b1, o1, none⟩) k c] W fun e w' => e = .returned (.agg (hv (rootH (L.take k)))) ∧ Below W.heap.size W w') := fun W hW =>
        rroot_upto (L.take k).length (L.take k) W _ (Nat.le_refl _) (by rw [List.length_take]; omega) (hR.below hW hR.lt) ((hL.below hW).take k (by omega)) (fun a n c e => by have := Value.slice.inj e; omega)
      have HRd : Hid (∀ W, Below w.heap.size w W → Calls Tryd.prog 24 #[.slice (some ⟨b1, o1 + k * 32, none⟩) (m - k) (c - k)] W fun e w' => e = .returned (.agg (hv (rootH (L.drop k)))) ∧ Below W.heap.size W w') := fun W hW => by
        have h7 := (hL.below hW).rest k (by omega) hc
        rw [if_neg hck] at h7
        exact rroot_upto (L.drop k).length (L.drop k) W _ (Nat.le_refl _) (by rw [List.length_drop]; omega) (hR.below hW hR.lt) h7 (fun a n c e => by have := Value.slice.inj e; omega)
      have hrk : (rootH (L.take k)).length = 32 := rootH_32 (fun x hx => h32 x (List.mem_of_mem_take hx))
      have hrd : (rootH (L.drop k)).length = 32 := rootH_32 (fun x hx => h32 x (List.mem_of_mem_drop hx))
      rw [hm]
      by_cases hik : i < k
      · have k7 : (i : Int) < (k : Int) := by omega
        have HI : Hid (Calls Tryd.prog 10 #[.slice (some ⟨b1, o1, none⟩) k c, .int .i64 (i : Int)] w fun e w' => ∃ a c, e = .returned (.tuple #[.slice a (prH (L.take k) i).length c, .int .i64 0]) ∧ Mh w w.heap.size (.slice a (prH (L.take k) i).length c) (prH (L.take k) i) w') := by
          have hl : (L.take k).length = k := by rw [List.length_take]; omega
          have := ih (L.take k) w (some ⟨b1, o1, none⟩) c i (by omega) (by omega) (by omega) hR (by rw [hl]; exact hL.take k (by omega)) (by omega)
          rwa [hl] at this
        have hp : prH L i = prH (L.take k) i ++ [rootH (L.drop k)] := by
          have := pr_left (L := L) (i := i) (by omega) (by omega)
          rwa [hk] at this
        have HMd : Hid (∀ W : World, HsAt (W.alloc (.cells (hv (rootH (L.drop k))) 23)) (.slice (some ⟨W.heap.size, 0, none⟩) [rootH (L.drop k)].length 1) [rootH (L.drop k)]) := fun W => HsAt.made W _ hrd
        have hCs : (hv (rootH (L.drop k))).size = 32 := by rw [hv_size, hrd]
        have hbld := build_hash (hv (rootH (L.drop k))) hCs
        rw [zero_h32] at hbld
        have hq9 : Hid ((prH (L.take k) i).length ≤ 1000) := by
          have h8 := bes_short 10 i 0 (L.take k).length (by rw [List.length_take]; omega)
          rw [← bes_all (L.take k), List.length_map]
          exact Nat.le_trans h8 (by decide)
        rw [hp]
        obtain ⟨Q, hQ⟩ : ∃ Q, prH (L.take k) i = Q := ⟨_, rfl⟩
        rw [hQ] at HI hq9 ⊢
        obtain ⟨H, hH⟩ : ∃ H, rootH (L.drop k) = H := ⟨_, rfl⟩
        rw [hH] at HRd HMd hbld hCs ⊢
        have HBr : Hid (∀ W, Below w.heap.size w W → Below w.heap.size w W) := fun W h => h
        clear hp hQ hH hrk hrd HRk hx0 h32 hL hR ih hN hM hi hk hm s1 s2 hik h1 hc
        generalize hv H = C at *
        go_enter Tryd.func10, Tryd.ntmps10
        go_wp2_with fail
        refine (HS.out _).mono ?_
        rintro e w' ⟨rfl, rfl⟩
        clear HS
        go_wp2_with fail
        refine HI.out.mono ?_
        rintro e w1 ⟨pa, pc, rfl, hMp⟩
        have HMp : Hid (Mh w' w'.heap.size (.slice pa Q.length pc) Q w1) := hMp
        clear hMp HI
        go_wp2_with fail
        refine (HRd.out w1 HMp.out.below).mono ?_
        rintro e w2 ⟨rfl, b2⟩
        have hM2 := (HMp.out.next b2).alloc (.cells C 23)
        have hNx := HMd.out w2
        clear b2 HMp HMd HRd
        go_wp2_with (first | (refine wpList_append_mh (L := Q) (M := [H]) rfl (.tmp 36) (.tmp 41) rfl hM2 ⟨w2.heap.size, 0, none⟩ 1 rfl rfl hNx (Q ++ [H]) (Q.length + 1) rfl (by rw [List.length_append, List.length_singleton]) (by have := hq9.out; omega) ?_; intro ya yc w3 _ hM3; have HM3 : Hid _ := hM3; clear hM2 hNx hM3) | fail)
        go_ret2
        exact ⟨ya, yc, by first | (rw [List.length_append, List.length_singleton]; rfl) | simp, by rw [List.length_append, List.length_singleton]; exact HM3.out⟩
      · have k7 : ¬ (i : Int) < (k : Int) := by omega
        have HI : Hid (Calls Tryd.prog 10 #[.slice (some ⟨b1, o1 + k * 32, none⟩) (m - k) (c - k), .int .i64 ((i - k : Nat) : Int)] w fun e w' => ∃ a c, e = .returned (.tuple #[.slice a (prH (L.drop k) (i - k)).length c, .int .i64 0]) ∧ Mh w w.heap.size (.slice a (prH (L.drop k) (i - k)).length c) (prH (L.drop k) (i - k)) w') := by
          have hl : (L.drop k).length = m - k := by rw [List.length_drop]; omega
          have h7 := hL.rest k (by omega) hc
          rw [if_neg hck] at h7
          have := ih (L.drop k) w (some ⟨b1, o1 + k * 32, none⟩) (c - k) (i - k) (by omega) (by omega) (by omega) hR (by rw [hl]; exact h7) (by omega)
          rwa [hl] at this
        have hp : prH L i = prH (L.drop k) (i - k) ++ [rootH (L.take k)] := by
          have := pr_right (L := L) (i := i) (by omega) (by omega)
          rwa [hk] at this
        have HMd : Hid (∀ W : World, HsAt (W.alloc (.cells (hv (rootH (L.take k))) 23)) (.slice (some ⟨W.heap.size, 0, none⟩) [rootH (L.take k)].length 1) [rootH (L.take k)]) := fun W => HsAt.made W _ hrk
        have hCs : (hv (rootH (L.take k))).size = 32 := by rw [hv_size, hrk]
        have hbld := build_hash (hv (rootH (L.take k))) hCs
        rw [zero_h32] at hbld
        have hq9 : Hid ((prH (L.drop k) (i - k)).length ≤ 1000) := by
          have h8 := bes_short 10 (i - k) 0 (L.drop k).length (by rw [List.length_drop]; omega)
          rw [← bes_all (L.drop k), List.length_map]
          exact Nat.le_trans h8 (by decide)
        rw [hp]
        obtain ⟨Q, hQ⟩ : ∃ Q, prH (L.drop k) (i - k) = Q := ⟨_, rfl⟩
        rw [hQ] at HI hq9 ⊢
        obtain ⟨H, hH⟩ : ∃ H, rootH (L.take k) = H := ⟨_, rfl⟩
        rw [hH] at HRk HMd hbld hCs ⊢
        have HBr : Hid (∀ W, Below w.heap.size w W → Below w.heap.size w W) := fun W h => h
        have hwk : Hid (wrap64 ((i : Int) - (k : Int)) = ((i - k : Nat) : Int)) := by show _ = _; unfold wrap64; omega
        clear hp hQ hH hrk hrd HRd hx0 h32 hL hR ih hN hM hi hk hm s1 s2 hik h1 hc
        generalize hv H = C at *
        go_enter Tryd.func10, Tryd.ntmps10
        go_wp2_with fail
        refine (HS.out _).mono ?_
        rintro e w' ⟨rfl, rfl⟩
        clear HS
        go_wp2_with (first | (simp only [hwk.out]) | fail)
        refine HI.out.mono ?_
        rintro e w1 ⟨pa, pc, rfl, hMp⟩
        have HMp : Hid (Mh w' w'.heap.size (.slice pa Q.length pc) Q w1) := hMp
        clear hMp HI
        go_wp2_with fail
        refine (HRk.out w1 HMp.out.below).mono ?_
        rintro e w2 ⟨rfl, b2⟩
        have hM2 := (HMp.out.next b2).alloc (.cells C 23)
        have hNx := HMd.out w2
        clear b2 HMp HMd HRk
        go_wp2_with (first | (refine wpList_append_mh (L := Q) (M := [H]) rfl (.tmp 53) (.tmp 58) rfl hM2 ⟨w2.heap.size, 0, none⟩ 1 rfl rfl hNx (Q ++ [H]) (Q.length + 1) rfl (by rw [List.length_append, List.length_singleton]) (by have := hq9.out; omega) ?_; intro ya yc w3 _ hM3; have HM3 : Hid _ := hM3; clear hM2 hNx hM3) | fail)
        go_ret2
        exact ⟨ya, yc, by first | (rw [List.length_append, List.length_singleton]; rfl) | simp, by rw [List.length_append, List.length_singleton]; exact HM3.out⟩
end Go.Proofs.YtficmbaffkkfhaaDoor
