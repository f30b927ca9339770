/- Contracts of frames.told and frames.Decode. -/
import Derived.Test.YtalofhnjlmgloaaDoorFg
import Derived.Test.YtalofhnjlmgloaaDoorFe
namespace Go.Proofs.YtalofhnjlmgloaaDoor
open Go.RowKit

theorem results_celt {P : Program} {fn : Func} {p u : Tmp} {ty : TypeId} (h : fn.results = #[.cell p ty, .tmp u]) (tmps : Array Value) (W : World) (g : Nat) (t : TypeId) (cs : Array Value) (fr : Nat × Nat) (d : TypeDesc)
    (hp : tmps.getD p undef = .pointer (some ⟨g, 0, none⟩)) (hg : W.heap[g]? = some (.cells cs t fr)) (hu : P.underlying ty = some d) (ha : (match d with | .struct _ | .array _ _ => true | _ => false) = true) (hi : (P.info? ty).map (·.size) = some cs.size) :
    (results fn tmps).run P W = .ok (.tuple #[.agg cs, tmps.getD u undef]) W := by
  have hl := run_loadVar_row (P := P) W g t ty cs fr _ hg hu ha hi
  have hp' : tmps[p]?.getD undef = .pointer (some ⟨g, 0, none⟩) := by simpa using hp
  simp only [results, h]
  simp [Result.andThen, hp', asAddr, hl]
theorem info_fr : (Tryd.prog.info? 39).map (·.size) = some 4 := by kernel_rfl
/-- A frame's cells. -/
def frC (f : Fr) : Array Value := #[.int .u8 f.k, .int .i64 f.e, .int .i64 f.i, .string (S f.d)]
theorem frV_c (f : Fr) : frV f = .agg (frC f) := rfl
theorem win_S (l : List UInt8) (a n : Nat) : win (S l) a n = cut l a n := by simp [win, cut]
theorem get_S (t : List UInt8) (ht : t.length = 124) (a size : Nat) (hz : isSz size = true) (h8 : ((size : Int) == 8) = false) (ha : a + size ≤ 124) (w : World) (hT : Tab w) :
    Calls Tryd.prog 35 #[.string (S t), .int .i64 a, .int .i64 size] w fun e w' => e = .returned (.tuple #[.int .i64 (numL (cut t a size)), .int .i64 ((a + size : Nat) : Int), .bool true]) ∧ w' = w := by
  have hsz : (S t).size = 124 := by rw [S_size, ht]
  have h := get_any (S t) a size w hT (by omega) (by omega)
  rw [getV_yes (by
    unfold getB
    rw [hz, stB_iff.2 (by omega), h8]; rfl)] at h
  rw [show ((a : Int)).toNat = a by omega, show ((size : Int)).toNat = size by omega, win_S] at h
  rw [show ((a + size : Nat) : Int) = (a : Int) + (size : Int) by omega]
  exact h
theorem num_one (t : List UInt8) (a : Nat) (h : a < t.length) : numL (cut t a 1) = (((t[a]?.getD 0).toNat : Nat) : Int) := by
  have e : cut t a 1 = [t[a]?.getD 0] := by
    apply List.ext_getElem?
    intro j
    rw [cut_get]
    cases j with
    | zero => simp [List.getElem?_eq_getElem h]
    | succ j => simp
  rw [e]; simp [numL]
set_option maxRecDepth 100000 in
set_option maxHeartbeats 1000000 in
theorem told_any (t : List UInt8) (ht : t.length = 124) (w : World) (hT : Tab w) :
    Calls Tryd.prog 28 #[.string (S t)] w fun e w' => e = .returned (.tuple #[frV (if (t[7]?.getD 0).toNat ≤ 112 then tellF t else nof), .bool (decide ((t[7]?.getD 0).toNat ≤ 112))]) ∧ Below w.heap.size w w' := by
  have hsz : (S t).size = 124 := by rw [S_size, ht]
  have l0 := numL_nonneg (cut t 0 1)
  have l1 := numL_lt (cut t 0 1)
  rw [cut_length t 0 1 (by omega)] at l1
  have hN3 := num_one t 7 (by omega)
  have h1 : Hid (∀ w : World, Tab w → Calls Tryd.prog 35 #[.string (S t), .int .i64 0, .int .i64 1] w fun e w' => e = .returned (.tuple #[.int .i64 (numL (cut t 0 1)), .int .i64 1, .bool true]) ∧ w' = w) := fun w h => get_S t ht 0 1 rfl rfl (by omega) w h
  have h2 : Hid (∀ w : World, Tab w → Calls Tryd.prog 35 #[.string (S t), .int .i64 1, .int .i64 4] w fun e w' => e = .returned (.tuple #[.int .i64 (numL (cut t 1 4)), .int .i64 5, .bool true]) ∧ w' = w) := fun w h => get_S t ht 1 4 rfl rfl (by omega) w h
  have h3 : Hid (∀ w : World, Tab w → Calls Tryd.prog 35 #[.string (S t), .int .i64 5, .int .i64 2] w fun e w' => e = .returned (.tuple #[.int .i64 (numL (cut t 5 2)), .int .i64 7, .bool true]) ∧ w' = w) := fun w h => get_S t ht 5 2 rfl rfl (by omega) w h
  have h4 : Hid (∀ w : World, Tab w → Calls Tryd.prog 35 #[.string (S t), .int .i64 7, .int .i64 1] w fun e w' => e = .returned (.tuple #[.int .i64 (((t[7]?.getD 0).toNat : Nat) : Int), .int .i64 8, .bool true]) ∧ w' = w) := fun w h => by rw [← hN3]; exact get_S t ht 7 1 rfl rfl (by omega) w h
  have hb : Below w.heap.size w (w.alloc (.cells #[.int .u8 0, .int .i64 0, .int .i64 0, .string ⟨#[]⟩] 39)) := (Below.refl _ _).alloc (Nat.le_refl _) _
  have hg := heap_alloc_last w (.cells #[.int .u8 0, .int .i64 0, .int .i64 0, .string ⟨#[]⟩] 39)
  have T1 : Hid (Tab (w.alloc (.cells #[.int .u8 0, .int .i64 0, .int .i64 0, .string ⟨#[]⟩] 39))) := hT.below hb
  have HR : Hid (∀ c : Array Value, Below w.heap.size w ((w.alloc (.cells #[.int .u8 0, .int .i64 0, .int .i64 0, .string ⟨#[]⟩] 39)).setRow w.heap.size c)) := fun c => below_setRow hb (Nat.le_refl _) c
  have HG := fun c : Array Value => heap_setRow_same (ds := c) hg
  have HG : Hid (∀ c : Array Value, ((w.alloc (.cells #[.int .u8 0, .int .i64 0, .int .i64 0, .string ⟨#[]⟩] 39)).setRow w.heap.size c).heap[w.heap.size]? = some (.cells c 39 (0, 0))) := HG
  have Hg : Hid _ := hg
  by_cases hn : (t[7]?.getD 0).toNat ≤ 112
  · rw [if_pos hn, decide_eq_true hn]
    have HX : Hid ((S t).extract 12 (12 + (t[7]?.getD 0).toNat) = S (tellF t).d) := by
      show _ = _
      rw [S_ext, Nat.add_sub_cancel_left]; rfl
    have HF : Hid (frV (tellF t) = .agg #[.int .u8 (numL (cut t 0 1)), .int .i64 (numL (cut t 1 4)), .int .i64 (numL (cut t 5 2)), .string (S (tellF t).d)]) := rfl
    generalize numL (cut t 0 1) = N0 at *
    generalize numL (cut t 1 4) = N1 at *
    generalize numL (cut t 5 2) = N2 at *
    generalize hm : (t[7]?.getD 0).toNat = m at *
    generalize S (tellF t).d = E at *
    generalize frV (tellF t) = V at *
    generalize S t = A at *
    have m1 : ¬ (112 : Int) < (m : Int) := by omega
    have m2 : N0 % 256 = N0 := by omega
    have m3 : (12 : Int) + (m : Int) ≤ 124 := by omega
    have hX2 := HX.out
    have wm : IntKind.i64.wrap (12 + (m : Int)) = 12 + (m : Int) := by rw [IntKind.wrap_i64]; omega
    clear hm hN3 hb hg hT
    go_enter Tryd.func28, Tryd.ntmps28
    go_wp2_with fail
    refine (h1.out _ T1.out).mono ?_
    rintro e w1 ⟨rfl, rfl⟩
    go_wp2_with fail
    refine (h2.out _ T1.out).mono ?_
    rintro e w1 ⟨rfl, rfl⟩
    go_wp2_with fail
    refine (h3.out _ T1.out).mono ?_
    rintro e w1 ⟨rfl, rfl⟩
    go_wp2_with fail
    refine (h4.out _ T1.out).mono ?_
    rintro e w1 ⟨rfl, rfl⟩
    go_wp2
    refine bodyPost_ret (v := .tuple #[V, .bool true]) ?_ rfl ⟨rfl, (Below.refl _ _).alloc (Nat.le_refl _) _⟩
    rw [HF.out]
    exact results_celt Tryd.results28 _ _ w.heap.size _ _ (0, 0) _ rfl (heap_alloc_last w _) Tryd.underlying39 rfl info_fr
  · rw [if_neg hn, decide_eq_false hn]
    have HF : Hid (frV nof = .agg #[.int .u8 0, .int .i64 0, .int .i64 0, .string ⟨#[]⟩]) := rfl
    generalize numL (cut t 0 1) = N0 at *
    generalize numL (cut t 1 4) = N1 at *
    generalize numL (cut t 5 2) = N2 at *
    generalize hm : (t[7]?.getD 0).toNat = m at *
    generalize frV nof = V at *
    generalize S t = A at *
    have m1 : (112 : Int) < (m : Int) := by omega
    clear hm hN3 hb hg hT
    go_enter Tryd.func28, Tryd.ntmps28
    go_wp2_with fail
    refine (h1.out _ T1.out).mono ?_
    rintro e w1 ⟨rfl, rfl⟩
    go_wp2_with fail
    refine (h2.out _ T1.out).mono ?_
    rintro e w1 ⟨rfl, rfl⟩
    go_wp2_with fail
    refine (h3.out _ T1.out).mono ?_
    rintro e w1 ⟨rfl, rfl⟩
    go_wp2_with fail
    refine (h4.out _ T1.out).mono ?_
    rintro e w1 ⟨rfl, rfl⟩
    go_wp2
    refine bodyPost_ret (v := .tuple #[V, .bool false]) ?_ rfl ⟨rfl, (Below.refl _ _).alloc (Nat.le_refl _) _⟩
    rw [HF.out]
    exact results_celt Tryd.results28 _ _ w.heap.size _ _ (0, 0) _ rfl (heap_alloc_last w _) Tryd.underlying39 rfl info_fr
end Go.Proofs.YtalofhnjlmgloaaDoor
