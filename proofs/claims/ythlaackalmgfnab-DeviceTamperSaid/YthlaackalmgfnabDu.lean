/- blockOf: a block of a state with a text, if there is such a one. -/
import Derived.Test.YthlaackalmgfnabDt
import Derived.Test.YthlaackalmgfnabDj
namespace Go.Proofs.Ythlaackalmgfnab
open Go.RowKit

def blkOf (st : Int) (s : List UInt8) : Option Blk := if st = 1 ∧ s.length = 128 then some ⟨1, ofT s⟩ else if (st = 0 ∨ st = 2) ∧ s = [] then some ⟨st.toNat, fun _ => 0⟩ else none
theorem results_cellt {P : Program} {fn : Func} {p u : Tmp} {ty : TypeId} (h : fn.results = #[.cell p ty, .tmp u]) (tmps : Array Value) (W : World) (g : Nat) (t : TypeId) (cs : Array Value) (fr : Nat × Nat) (d : TypeDesc)
    (hp : tmps.getD p undef = .pointer (some ⟨g, 0, none⟩)) (hg : W.heap[g]? = some (.cells cs t fr)) (hu : P.underlying ty = some d) (ha : (match d with | .struct _ | .array _ _ => true | _ => false) = true) (hi : (P.info? ty).map (·.size) = some cs.size) :
    (results fn tmps).run P W = .ok (.tuple #[.agg cs, tmps.getD u undef]) W := by
  have hl := run_loadVar_row (P := P) W g t ty cs fr _ hg hu ha hi
  have hp' : tmps[p]?.getD undef = .pointer (some ⟨g, 0, none⟩) := by simpa using hp
  simp only [results, h]
  simp [Result.andThen, hp', asAddr, hl]
theorem built_st (st : Int) : Try.prog.built 57 [(0, Value.int .i64 st)] = some (Value.int .i64 st :: (hv (txt fun _ => 0)).toList).toArray := by kernel_rfl
theorem built_no : Try.prog.built 57 [] = some (bc blank).toArray := by kernel_rfl
set_option maxRecDepth 100000 in
theorem blockOf_any (st : Int) (s : List UInt8) (w : World) : Calls Try.prog 40 #[.int .i64 st, .string (S s)] w fun e w' => e = .returned (.tuple #[.agg (bc ((blkOf st s).getD blank)).toArray, .bool (blkOf st s).isSome]) ∧ Below w.heap.size w w' := by
  have hz := (zero_of_info zero_bk).1
  have z1 : (bc blank).toArray.size = 129 := bcA_size _
  have hne : ¬ (bc blank).toArray = #[] := fun h => by rw [h] at z1; cases z1
  have hgz : ∀ Z : Array Value, (w.alloc (.cells Z 57)).heap[w.heap.size]? = some (.cells Z 57 (0, 0)) := fun Z => heap_alloc_last _ _
  have HB0 : Hid (∀ Z : Array Value, Below w.heap.size w (w.alloc (.cells Z 57))) := fun Z => (Below.refl _ _).alloc (Nat.le_refl _) _
  by_cases hA : st = 1 ∧ s.length = 128
  · obtain ⟨rfl, hl⟩ := hA
    have e : blkOf 1 s = some ⟨1, ofT s⟩ := by unfold blkOf; rw [if_pos ⟨rfl, hl⟩]
    rw [e]
    simp only [Option.getD_some, Option.isSome_some]
    have HW : Hid (∀ w : World, Calls Try.prog 47 #[.string (S s)] w fun e w' => e = .returned (.agg (bc ⟨1, ofT s⟩).toArray) ∧ Below w.heap.size w w') := written_any s hl
    have s2 : (bc ⟨1, ofT s⟩).toArray.size = 129 := bcA_size _
    have o2 : (bc ⟨1, ofT s⟩).toArray.all (·.oneCell') = true := bcA_one _
    have hsz : ((S s).size : Int) = 128 := by rw [S_size]; omega
    have HZ : Hid (∀ Z : Array Value, (w.alloc (.cells Z 57)).heap[w.heap.size]? = some (.cells Z 57 (0, 0))) := hgz
    have HS : Hid ((bc blank).toArray.size = 129) := z1
    clear e hgz hl
    generalize (bc blank).toArray = Z at *
    generalize (bc ⟨1, ofT s⟩).toArray = X at *
    generalize S s = A at *
    go_enter Try.func40, Try.ntmps40
    go_wp2_with fail
    refine Calls.mono (HW.out _) ?_
    rintro e w2 ⟨rfl, b2⟩
    have G2 : Hid (w2.heap[w.heap.size]? = some (.cells Z 57 (0, 0))) := by show _ = _; rw [b2.block _ (by simp)]; exact HZ.out Z
    have HB2 : Hid (Below w.heap.size w w2) := (HB0.out Z).trans (b2.mono (by simp))
    clear b2 HW
    go_wp2_with (refine wpList_store_row rfl 57 _ _ rfl w.heap.size X rfl rfl _ Z G2.out (by rw [info_bk, s2]) (by rw [HS.out, s2]) o2 ?_)
    refine bodyPost_ret (v := .tuple #[.agg X, .bool true]) (results_cellt Try.results40 _ _ w.heap.size _ X (0, 0) _ rfl (heap_setRow_same G2.out) Try.underlying57 rfl (by rw [info_bk, s2])) rfl ⟨rfl, below_setRow HB2.out (Nat.le_refl _) _⟩
  by_cases hB : (st = 0 ∨ st = 2) ∧ s = []
  · obtain ⟨hst, rfl⟩ := hB
    have hA2 : S ([] : List UInt8) = ⟨#[]⟩ := rfl
    rw [hA2]
    rcases hst with rfl | rfl
    · have e : blkOf 0 [] = some ⟨0, fun _ => 0⟩ := rfl
      rw [e]
      simp only [Option.getD_some, Option.isSome_some]
      have HBu : Hid (∀ w : World, (Instr.build 57 #[(0, .int .i64 0)]).run Try.prog w = .ok (.agg (bc ⟨0, fun _ => 0⟩).toArray) w) := fun w => run_build w _ _ _ (built_st 0)
      have y1 : (bc ⟨0, fun _ => 0⟩).toArray.size = 129 := bcA_size _
      have y2 : (bc ⟨0, fun _ => 0⟩).toArray.all (·.oneCell') = true := bcA_one _
      have HZ : Hid (∀ Z : Array Value, (w.alloc (.cells Z 57)).heap[w.heap.size]? = some (.cells Z 57 (0, 0))) := hgz
      have HS : Hid ((bc blank).toArray.size = 129) := z1
      clear e hgz hA
      generalize (bc blank).toArray = Z at *
      generalize (bc ⟨0, fun _ => 0⟩).toArray = Y at *
      go_enter Try.func40, Try.ntmps40
      go_wp2_with (first | (refine wpList_build rfl 57 #[(0, .tmp 27)] rfl #[(0, .int .i64 0)] (by kernel_rfl) _ (HBu.out _) ?_) | (refine store_last rfl 57 _ _ rfl 129 _ _ Y rfl rfl info_bk HS.out y1 y2 ?_))
      refine bodyPost_ret (v := .tuple #[.agg Y, .bool true]) (results_cellt Try.results40 _ _ w.heap.size _ Y (0, 0) _ rfl (HZ.out Y) Try.underlying57 rfl (by rw [info_bk, y1])) rfl ⟨rfl, HB0.out Y⟩
    · have e : blkOf 2 [] = some ⟨2, fun _ => 0⟩ := rfl
      rw [e]
      simp only [Option.getD_some, Option.isSome_some]
      have HBu : Hid (∀ w : World, (Instr.build 57 #[(0, .int .i64 2)]).run Try.prog w = .ok (.agg (bc ⟨2, fun _ => 0⟩).toArray) w) := fun w => run_build w _ _ _ (built_st 2)
      have y1 : (bc ⟨2, fun _ => 0⟩).toArray.size = 129 := bcA_size _
      have y2 : (bc ⟨2, fun _ => 0⟩).toArray.all (·.oneCell') = true := bcA_one _
      have HZ : Hid (∀ Z : Array Value, (w.alloc (.cells Z 57)).heap[w.heap.size]? = some (.cells Z 57 (0, 0))) := hgz
      have HS : Hid ((bc blank).toArray.size = 129) := z1
      clear e hgz hA
      generalize (bc blank).toArray = Z at *
      generalize (bc ⟨2, fun _ => 0⟩).toArray = Y at *
      go_enter Try.func40, Try.ntmps40
      go_wp2_with (first | (refine wpList_build rfl 57 #[(0, .tmp 27)] rfl #[(0, .int .i64 2)] (by kernel_rfl) _ (HBu.out _) ?_) | (refine store_last rfl 57 _ _ rfl 129 _ _ Y rfl rfl info_bk HS.out y1 y2 ?_))
      refine bodyPost_ret (v := .tuple #[.agg Y, .bool true]) (results_cellt Try.results40 _ _ w.heap.size _ Y (0, 0) _ rfl (HZ.out Y) Try.underlying57 rfl (by rw [info_bk, y1])) rfl ⟨rfl, HB0.out Y⟩
  have e : blkOf st s = none := by unfold blkOf; rw [if_neg hA, if_neg hB]
  rw [e]
  simp only [Option.getD_none, Option.isSome_none]
  have HBu : Hid (∀ w : World, (Instr.build 57 #[]).run Try.prog w = .ok (.agg (bc blank).toArray) w) := fun w => run_build w _ _ _ built_no
  have y1 : (bc blank).toArray.size = 129 := bcA_size _
  have y2 : (bc blank).toArray.all (·.oneCell') = true := bcA_one _
  have HZ : Hid (∀ Z : Array Value, (w.alloc (.cells Z 57)).heap[w.heap.size]? = some (.cells Z 57 (0, 0))) := hgz
  have HS : Hid ((bc blank).toArray.size = 129) := z1
  have hemp : s ≠ [] → (S s).toList.isEmpty = false := fun h => by rw [toList_S]; cases s with | nil => exact absurd rfl h | cons a l => rfl
  have hsz : s.length ≠ 128 → (((S s).size : Int) == 128) = false := fun h => by
    have : ¬ ((S s).size : Int) = 128 := by rw [S_size]; omega
    simpa using this
  clear e hgz
  generalize hY : (bc blank).toArray = Y at *
  clear hY
  by_cases h1 : st = 1
  · subst h1
    have hs := hsz fun h => hA ⟨rfl, h⟩
    clear hA hB hemp hsz
    generalize S s = A at *
    go_enter Try.func40, Try.ntmps40
    go_wp2_with (first | (refine wpList_build rfl 57 #[] rfl #[] (by kernel_rfl) _ (HBu.out _) ?_) | (refine store_last rfl 57 _ _ rfl 129 _ _ Y rfl rfl info_bk HS.out y1 y2 ?_))
    refine bodyPost_ret (v := .tuple #[.agg Y, .bool false]) (results_cellt Try.results40 _ _ w.heap.size _ Y (0, 0) _ rfl (HZ.out Y) Try.underlying57 rfl (by rw [info_bk, y1])) rfl ⟨rfl, HB0.out Y⟩
  by_cases h0 : st = 0
  · subst h0
    have hs := hemp fun h => hB ⟨.inl rfl, h⟩
    clear hA hB hemp hsz
    generalize S s = A at *
    go_enter Try.func40, Try.ntmps40
    go_wp2_with (first | (refine wpList_build rfl 57 #[] rfl #[] (by kernel_rfl) _ (HBu.out _) ?_) | (refine store_last rfl 57 _ _ rfl 129 _ _ Y rfl rfl info_bk HS.out y1 y2 ?_))
    refine bodyPost_ret (v := .tuple #[.agg Y, .bool false]) (results_cellt Try.results40 _ _ w.heap.size _ Y (0, 0) _ rfl (HZ.out Y) Try.underlying57 rfl (by rw [info_bk, y1])) rfl ⟨rfl, HB0.out Y⟩
  by_cases h2 : st = 2
  · subst h2
    have hs := hemp fun h => hB ⟨.inr rfl, h⟩
    clear hA hB hemp hsz
    generalize S s = A at *
    go_enter Try.func40, Try.ntmps40
    go_wp2_with (first | (refine wpList_build rfl 57 #[] rfl #[] (by kernel_rfl) _ (HBu.out _) ?_) | (refine store_last rfl 57 _ _ rfl 129 _ _ Y rfl rfl info_bk HS.out y1 y2 ?_))
    refine bodyPost_ret (v := .tuple #[.agg Y, .bool false]) (results_cellt Try.results40 _ _ w.heap.size _ Y (0, 0) _ rfl (HZ.out Y) Try.underlying57 rfl (by rw [info_bk, y1])) rfl ⟨rfl, HB0.out Y⟩
  have g1 : (st == 1) = false := by simpa using h1
  have g0 : (st == 0) = false := by simpa using h0
  have g2 : (st == 2) = false := by simpa using h2
  clear hA hB hemp hsz h0 h1 h2
  generalize S s = A at *
  go_enter Try.func40, Try.ntmps40
  go_wp2_with (first | (refine wpList_build rfl 57 #[] rfl #[] (by kernel_rfl) _ (HBu.out _) ?_) | (refine store_last rfl 57 _ _ rfl 129 _ _ Y rfl rfl info_bk HS.out y1 y2 ?_))
  refine bodyPost_ret (v := .tuple #[.agg Y, .bool false]) (results_cellt Try.results40 _ _ w.heap.size _ Y (0, 0) _ rfl (HZ.out Y) Try.underlying57 rfl (by rw [info_bk, y1])) rfl ⟨rfl, HB0.out Y⟩
end Go.Proofs.Ythlaackalmgfnab
