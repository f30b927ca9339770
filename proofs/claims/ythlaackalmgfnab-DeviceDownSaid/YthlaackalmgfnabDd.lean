/- Contract of device.kept: what a block comes to by an act. -/
import Derived.Test.YthlaackalmgfnabDc
namespace Go.Proofs.Ythlaackalmgfnab
open Go.RowKit

/-- A struct made of its parts. -/
theorem wpList_build {P : Program} {ops : Array Oper} {rest : List Oper} {o : Oper} {a : Act} {w : World} {Q : Exit → Act → World → Prop} (hgd : o.guard = none) (t : TypeId) (parts : Array (Nat × Operand)) (ho : o.op = .build t parts)
    (vals : Array (Nat × Value)) (hp : parts.map (fun (i, x) => (i, a.eval x)) = vals) (v : Value) (hb : (Instr.build t vals).run P w = .ok v w)
    (h : wpList P ops Q rest (a.put o.dst v) w) : wpList P ops Q (o :: rest) a w :=
  wpList_plain hgd fun K hK => by
    have hp' : (parts.map fun (x : Nat × Operand) => (x.1, a.eval x.2)) = vals := hp
    unfold Oper.wp execOp
    simp only [ho]
    simp only [hp', Sem.run_bind, Sem.run_pure, hb, Result.andThen_ok]
    exact hK _ _ h
/-- The cells of a write. -/
def wrC (i : Nat) (g : Fin 128 → UInt8) : Array Value := (.int .i64 (i : Int) :: (hv (txt g)).toList).toArray
theorem wrC_size (i : Nat) (g : Fin 128 → UInt8) : (wrC i g).size = 129 := by unfold wrC; rw [List.size_toArray, List.length_cons, Array.length_toList, hv_size, txt_length]
theorem wrC_one (i : Nat) (g : Fin 128 → UInt8) : (wrC i g).all (·.oneCell') = true := bcA_one ⟨i, g⟩
theorem ta_wr (v : Value) (w : World) : (Instr.typeAssert (.iface 90 v) 79 90 true).run Try.prog w = .ok (.tuple #[v, .bool true]) w := by
  simp [Instr.typeAssert, run_underlying Try.underlying90]
theorem ta_er (v : Value) (w : World) : (Instr.typeAssert (.iface 92 v) 79 92 true).run Try.prog w = .ok (.tuple #[v, .bool true]) w := by
  simp [Instr.typeAssert, run_underlying Try.underlying92]
theorem ta_not (v : Value) (w : World) : (Instr.typeAssert (.iface 92 v) 79 90 true).run Try.prog w = .ok (.tuple #[.agg (bc blank).toArray, .bool false]) w := by
  have hz := (zero_of_info zero_wr).1
  simp [Instr.typeAssert, run_underlying Try.underlying90, hz]
theorem built_bk (g : Fin 128 → UInt8) : Try.prog.built 57 [(0, Value.int .i64 1), (1, .agg (hv (txt g)))] = some (bc ⟨1, g⟩).toArray := by kernel_rfl
theorem built_wr (i : Nat) (g : Fin 128 → UInt8) : Try.prog.built 90 [(0, Value.int .i64 (i : Int)), (1, .agg (hv (txt g)))] = some (wrC i g) := by kernel_rfl
theorem built_gone : Try.prog.built 57 [(0, Value.int .i64 2)] = some (bc ⟨2, fun _ => 0⟩).toArray := by kernel_rfl
theorem store_new3 {P : Program} (w : World) (o o2 : Obj) (Z Y : Array Value) (t : TypeId) (hs : Y.size = Z.size) (h1 : Y.all (·.oneCell') = true) : (storeCells ⟨w.heap.size + 1 + 1, 0, none⟩ Y.toList).run P (((w.alloc o).alloc o2).alloc (.cells Z t)) = .ok () (((w.alloc o).alloc o2).alloc (.cells Y t)) := by
  have := store_new (P := P) (w.alloc o) o2 Z Y t hs h1
  simpa using this
theorem wrC_range {w : World} {b i : Nat} {g : Fin 128 → UInt8} {t : TypeId} {fr : Nat × Nat} (hg : w.heap[b]? = some (.cells (wrC i g) t fr)) : w.rangeAt b 1 (hv (txt g)).toList := fun j v hj => by
  rw [cell_of_row _ _ _ _ _ _ hg]
  unfold wrC
  rw [List.getElem?_toArray, Nat.add_comm, List.getElem?_cons_succ]
  exact hj
theorem heap3 (w : World) (o1 o2 o3 : Obj) : (((w.alloc o1).alloc o2).alloc o3).heap[w.heap.size]? = some o1 ∧ (((w.alloc o1).alloc o2).alloc o3).heap[w.heap.size + 1]? = some o2 ∧ (((w.alloc o1).alloc o2).alloc o3).heap[w.heap.size + 1 + 1]? = some o3 := by
  refine ⟨?_, ?_, ?_⟩
  · rw [Below.heap_alloc _ _ _ (by simp; omega), Below.heap_alloc _ _ _ (by simp)]; exact heap_alloc_last _ _
  · rw [Below.heap_alloc _ _ _ (by simp)]
    have := heap_alloc_last (w.alloc o1) o2
    simpa using this
  · have := heap_alloc_last ((w.alloc o1).alloc o2) o3
    simpa using this
theorem below3 (w : World) (o1 o2 o3 : Obj) : Below w.heap.size w (((w.alloc o1).alloc o2).alloc o3) := (((Below.refl _ _).alloc (Nat.le_refl _) _).alloc (by simp) _).alloc (by simp; omega) _
theorem size3 (w : World) (o1 o2 o3 : Obj) : (((w.alloc o1).alloc o2).alloc o3).heap.size = w.heap.size + 3 := by simp
set_option maxRecDepth 100000 in
theorem kept_wr (was : Blk) (i : Nat) (g : Fin 128 → UInt8) (n : Int) (hn : n % 16 ≠ 0) (w : World) : Calls Try.prog 49 #[.agg (bc was).toArray, acV (.wr i g), .int .i64 n] w fun e w' => e = .returned (.agg (bc ⟨1, tornB g n⟩).toArray) ∧ Below w.heap.size w w' := by
  have hz := (zero_of_info zero_bk).1
  have hz2 := (zero_of_info zero_wr).1
  have z1 : (bc blank).toArray.size = 129 := bcA_size _
  have hne : ¬ (bc blank).toArray = #[] := fun h => by rw [h] at z1; cases z1
  have a1 : (bc was).toArray.size = 129 := bcA_size _
  have hne2 : ¬ (bc was).toArray = #[] := fun h => by rw [h] at a1; cases a1
  have hm : ¬ bits BinOp.and IntKind.i64 n 15 = 0 := by rw [mask15]; exact hn
  have c1 : (wrC i g).size = 129 := wrC_size _ _
  have c2 := wrC_one i g
  have HR : Hid (∀ (w : World) (b : Nat) (t : TypeId), w.heap[b]? = some (.cells (wrC i g) t (0, 0)) → w.rangeAt b 1 (hv (txt g)).toList) := fun w b t h => wrC_range h
  show Calls Try.prog 49 #[.agg (bc was).toArray, .iface 90 (.agg (wrC i g)), .int .i64 n] w _
  have HT : Hid _ := torn_any g n
  have HBu : Hid (∀ w : World, (Instr.build 57 #[(0, .int .i64 1), (1, .agg (hv (txt (tornB g n))))]).run Try.prog w = .ok (.agg (bc ⟨1, tornB g n⟩).toArray) w) := fun w => run_build w _ _ _ (built_bk _)
  have x1 : Hid ((bc ⟨1, tornB g n⟩).toArray.size = 129) := bcA_size _
  have x2 : Hid ((bc ⟨1, tornB g n⟩).toArray.all (·.oneCell') = true) := bcA_one _
  have HD : Hid ((Try.prog.info? 55).map (·.size) = some (hv (txt g)).toList.length) := by show _ = _; rw [info_by, Array.length_toList, hv_size, txt_length]
  clear hn
  have hS := store_new3 (P := Try.prog) w (.cells (bc was).toArray 57) (.cells (bc blank).toArray 57) (bc blank).toArray (wrC i g) 90 (by omega) c2
  generalize (bc blank).toArray = Z at *
  generalize (bc was).toArray = A at *
  generalize hC : wrC i g = C at *
  clear hC
  generalize hv (txt g) = D at *
  generalize hv (txt (tornB g n)) = E at *
  generalize (bc ⟨1, tornB g n⟩).toArray = X at *
  obtain ⟨k0, k1, k2⟩ := heap3 w (.cells A 57) (.cells Z 57) (.cells C 90)
  have r3 : Hid _ := HR.out _ _ _ k2
  have K1 : Hid _ := k1
  have HB3 : Hid _ := below3 w (.cells A 57) (.cells Z 57) (.cells C 90)
  have S3 : Hid _ := size3 w (.cells A 57) (.cells Z 57) (.cells C 90)
  have HZ : Hid (Z.size = 129) := z1
  clear k0 k1 k2 HR
  have ht := ta_wr (.agg C)
  go_enter Try.func49, Try.ntmps49
  go_wp2_with (refine wpList_load_mid rfl 55 _ rfl (w.heap.size + 1 + 1) 1 rfl D.toList _ r3.out Try.underlying55 rfl HD.out ?_)
  refine (HT.out _).mono ?_
  rintro e w4 ⟨rfl, b4⟩
  have k4 : Hid (w4.heap[w.heap.size + 1]? = some (.cells Z 57 (0, 0))) := by show _ = _; rw [b4.block _ (by rw [S3.out]; omega)]; exact K1.out
  have HB4 : Hid (Below w.heap.size w w4) := HB3.out.trans (b4.mono (by rw [S3.out]; omega))
  clear b4 hS
  go_wp2_with (first | (refine wpList_build rfl 57 #[(0, .const (.int .i64 1)), (1, .tmp 19)] rfl #[(0, .int .i64 1), (1, .agg E)] (by kernel_rfl) _ (HBu.out _) ?_) | refine wpList_store_row rfl 57 _ _ rfl (w.heap.size + 1) X rfl rfl _ Z k4.out (by rw [info_bk, x1.out]) (by rw [HZ.out, x1.out]) x2.out ?_)
  refine bodyPost_ret (v := .agg X) (results_cell_row Try.results49 _ _ (w.heap.size + 1) _ X (0, 0) _ rfl (heap_setRow_same k4.out) Try.underlying57 rfl (by rw [info_bk, x1.out])) rfl ⟨rfl, below_setRow HB4.out (by omega) _⟩
set_option maxRecDepth 100000 in
theorem kept_wr0 (was : Blk) (i : Nat) (g : Fin 128 → UInt8) (n : Int) (hn : n % 16 = 0) (w : World) : Calls Try.prog 49 #[.agg (bc was).toArray, acV (.wr i g), .int .i64 n] w fun e w' => e = .returned (.agg (bc was).toArray) ∧ Below w.heap.size w w' := by
  have hz := (zero_of_info zero_bk).1
  have hz2 := (zero_of_info zero_wr).1
  have z1 : (bc blank).toArray.size = 129 := bcA_size _
  have hne : ¬ (bc blank).toArray = #[] := fun h => by rw [h] at z1; cases z1
  have a1 : (bc was).toArray.size = 129 := bcA_size _
  have a2 : Hid ((bc was).toArray.all (·.oneCell') = true) := bcA_one _
  have hne2 : ¬ (bc was).toArray = #[] := fun h => by rw [h] at a1; cases a1
  have hm : bits BinOp.and IntKind.i64 n 15 = 0 := by rw [mask15]; exact hn
  have c1 : (wrC i g).size = 129 := wrC_size _ _
  have c2 := wrC_one i g
  show Calls Try.prog 49 #[.agg (bc was).toArray, .iface 90 (.agg (wrC i g)), .int .i64 n] w _
  clear hn
  have hS := store_new3 (P := Try.prog) w (.cells (bc was).toArray 57) (.cells (bc blank).toArray 57) (bc blank).toArray (wrC i g) 90 (by omega) c2
  generalize (bc blank).toArray = Z at *
  generalize (bc was).toArray = A at *
  generalize hC : wrC i g = C at *
  clear hC
  obtain ⟨k0, k1, k2⟩ := heap3 w (.cells A 57) (.cells Z 57) (.cells C 90)
  have K0 : Hid _ := k0
  have K1 : Hid _ := k1
  have HB3 : Hid _ := below3 w (.cells A 57) (.cells Z 57) (.cells C 90)
  have HZ : Hid (Z.size = 129) := z1
  have HA : Hid (A.size = 129) := a1
  clear k0 k1 k2
  have ht := ta_wr (.agg C)
  go_enter Try.func49, Try.ntmps49
  go_wp2_with (first | (refine wpList_load_row rfl 57 _ rfl w.heap.size rfl _ A (0, 0) _ K0.out Try.underlying57 rfl (by rw [info_bk, HA.out]) ?_) | (refine wpList_store_row rfl 57 _ _ rfl (w.heap.size + 1) A rfl rfl _ Z K1.out (by rw [info_bk, HA.out]) (by rw [HZ.out, HA.out]) a2.out ?_))
  refine bodyPost_ret (v := .agg A) (results_cell_row Try.results49 _ _ (w.heap.size + 1) _ A (0, 0) _ rfl (heap_setRow_same K1.out) Try.underlying57 rfl (by rw [info_bk, HA.out])) rfl ⟨rfl, below_setRow HB3.out (by omega) _⟩
set_option maxRecDepth 100000 in
theorem kept_er (was : Blk) (i : Nat) (n : Int) (w : World) : Calls Try.prog 49 #[.agg (bc was).toArray, acV (.er i), .int .i64 n] w fun e w' => e = .returned (.agg (bc (keptB was (.er i) n)).toArray) ∧ Below w.heap.size w w' := by
  have hz := (zero_of_info zero_bk).1
  have z1 : (bc blank).toArray.size = 129 := bcA_size _
  have hne : ¬ (bc blank).toArray = #[] := fun h => by rw [h] at z1; cases z1
  have a1 : (bc was).toArray.size = 129 := bcA_size _
  have a2 : Hid ((bc was).toArray.all (·.oneCell') = true) := bcA_one _
  have hne2 : ¬ (bc was).toArray = #[] := fun h => by rw [h] at a1; cases a1
  show Calls Try.prog 49 #[.agg (bc was).toArray, .iface 92 (.agg #[.int .i64 (i : Int)]), .int .i64 n] w _
  have ht1 := ta_not (.agg #[.int .i64 (i : Int)])
  have ht2 := ta_er (.agg #[.int .i64 (i : Int)])
  have HBu : Hid (∀ w : World, (Instr.build 57 #[(0, .int .i64 2)]).run Try.prog w = .ok (.agg (bc ⟨2, fun _ => 0⟩).toArray) w) := fun w => run_build w _ _ _ built_gone
  have x1 : Hid ((bc ⟨2, fun _ => 0⟩).toArray.size = 129) := bcA_size _
  have x2 : Hid ((bc ⟨2, fun _ => 0⟩).toArray.all (·.oneCell') = true) := bcA_one _
  by_cases hn : n % 2 = 1
  · rw [show keptB was (.er i) n = ⟨2, fun _ => 0⟩ from if_pos hn]
    have hm : (bits BinOp.and IntKind.i64 n 1 == 1) = true := by rw [mask1, hn]; rfl
    clear hn
    generalize (bc blank).toArray = Z at *
    generalize (bc was).toArray = A at *
    generalize (bc ⟨2, fun _ => 0⟩).toArray = X at *
    obtain ⟨k0, k1, k2⟩ := heap3 w (.cells A 57) (.cells Z 57) (.cells #[.int .i64 (i : Int)] 92)
    have K1 : Hid _ := k1
    have HB3 : Hid _ := below3 w (.cells A 57) (.cells Z 57) (.cells #[.int .i64 (i : Int)] 92)
    have HZ : Hid (Z.size = 129) := z1
    clear k0 k1 k2
    go_enter Try.func49, Try.ntmps49
    go_wp2_with (first | (refine wpList_build rfl 57 #[(0, .const (.int .i64 2))] rfl #[(0, .int .i64 2)] (by kernel_rfl) _ (HBu.out _) ?_) | refine wpList_store_row rfl 57 _ _ rfl (w.heap.size + 1) X rfl rfl _ Z K1.out (by rw [info_bk, x1.out]) (by rw [HZ.out, x1.out]) x2.out ?_)
    refine bodyPost_ret (v := .agg X) (results_cell_row Try.results49 _ _ (w.heap.size + 1) _ X (0, 0) _ rfl (heap_setRow_same K1.out) Try.underlying57 rfl (by rw [info_bk, x1.out])) rfl ⟨rfl, below_setRow HB3.out (by omega) _⟩
  · rw [show keptB was (.er i) n = was from if_neg hn]
    have hm : (bits BinOp.and IntKind.i64 n 1 == 1) = false := by rw [mask1, beq_eq_false_iff_ne]; exact hn
    clear hn
    generalize (bc blank).toArray = Z at *
    generalize (bc was).toArray = A at *
    obtain ⟨k0, k1, k2⟩ := heap3 w (.cells A 57) (.cells Z 57) (.cells #[.int .i64 (i : Int)] 92)
    have K0 : Hid _ := k0
    have K1 : Hid _ := k1
    have HB3 : Hid _ := below3 w (.cells A 57) (.cells Z 57) (.cells #[.int .i64 (i : Int)] 92)
    have HZ : Hid (Z.size = 129) := z1
    have HA : Hid (A.size = 129) := a1
    clear k0 k1 k2
    go_enter Try.func49, Try.ntmps49
    go_wp2_with (first | (refine wpList_load_row rfl 57 _ rfl w.heap.size rfl _ A (0, 0) _ K0.out Try.underlying57 rfl (by rw [info_bk, HA.out]) ?_) | (refine wpList_store_row rfl 57 _ _ rfl (w.heap.size + 1) A rfl rfl _ Z K1.out (by rw [info_bk, HA.out]) (by rw [HZ.out, HA.out]) a2.out ?_))
    refine bodyPost_ret (v := .agg A) (results_cell_row Try.results49 _ _ (w.heap.size + 1) _ A (0, 0) _ rfl (heap_setRow_same K1.out) Try.underlying57 rfl (by rw [info_bk, HA.out])) rfl ⟨rfl, below_setRow HB3.out (by omega) _⟩
/-- device.kept: what a block comes to by an act. -/
theorem kept_any (was : Blk) (x : Ac) (n : Int) (w : World) : Calls Try.prog 49 #[.agg (bc was).toArray, acV x, .int .i64 n] w fun e w' => e = .returned (.agg (bc (keptB was x n)).toArray) ∧ Below w.heap.size w w' := by
  rcases x with ⟨⟨i, g⟩ | i⟩
  · by_cases hn : n % 16 = 0
    · rw [show keptB was (.wr i g) n = was from if_neg (by simpa using hn)]; exact kept_wr0 was i g n hn w
    · rw [show keptB was (.wr i g) n = ⟨1, tornB g n⟩ from if_pos hn]; exact kept_wr was i g n hn w
  · exact kept_er was i n w
end Go.Proofs.Ythlaackalmgfnab
