/- Contract of words.Put: the bytes of a number, for every argument. -/
import Derived.Test.YtficmbaffkkfhaaDoorW6
import Derived.Test.YtficmbaffkkfhaaDoorW1
namespace Go.Proofs.YtficmbaffkkfhaaDoor
open Go.RowKit

theorem mk1 (w : World) : (Instr.makeSlice 60 (.int .i64 1) (.int .i64 1)).run Tryd.prog w = .ok (.slice (some ⟨w.heap.size, 0, none⟩) 1 1) (w.alloc (.cells #[.int .u8 0] 5)) := by kernel_rfl
theorem mk2 (w : World) : (Instr.makeSlice 60 (.int .i64 2) (.int .i64 2)).run Tryd.prog w = .ok (.slice (some ⟨w.heap.size, 0, none⟩) 2 2) (w.alloc (.cells #[.int .u8 0, .int .u8 0] 5)) := by kernel_rfl
theorem mk4 (w : World) : (Instr.makeSlice 60 (.int .i64 4) (.int .i64 4)).run Tryd.prog w = .ok (.slice (some ⟨w.heap.size, 0, none⟩) 4 4) (w.alloc (.cells #[.int .u8 0, .int .u8 0, .int .u8 0, .int .u8 0] 5)) := by kernel_rfl
theorem mk8 (w : World) : (Instr.makeSlice 60 (.int .i64 8) (.int .i64 8)).run Tryd.prog w = .ok (.slice (some ⟨w.heap.size, 0, none⟩) 8 8) (w.alloc (.cells #[.int .u8 0, .int .u8 0, .int .u8 0, .int .u8 0, .int .u8 0, .int .u8 0, .int .u8 0, .int .u8 0] 5)) := by kernel_rfl

/-- A row of bytes of the call's own, made into a string. -/
theorem conv_ns (ns : List Int) (w : World) : (convert 60 9 (.slice (some ⟨w.heap.size, 0, none⟩) ns.length ns.length)).run Tryd.prog (w.alloc (.cells (ns.map (Value.int .u8)).toArray 5)) = .ok (.string (strOf ns)) (w.alloc (.cells (ns.map (Value.int .u8)).toArray 5)) := by
  rw [run_convert_bytes_string _ _ _ 5 _ _ _ Tryd.underlying60 Tryd.underlying5 Tryd.underlying9]
  have hl := run_loadCells_list (P := Tryd.prog) (w.alloc (.cells (ns.map (Value.int .u8)).toArray 5)) ⟨w.heap.size, 0, none⟩ (ns.map (Value.int .u8)) (fun j v hj => by
    have e : (⟨w.heap.size, 0, none⟩ : Addr).add j = ⟨w.heap.size, j, none⟩ := by simp [Addr.add]; omega
    rw [e, World.cell?_alloc_at _ _ _ _ rfl]
    simpa using hj)
  rw [List.length_map] at hl
  rw [run_bytesToString _ _ _ _ ns hl, foldl_push]
  simp [strOf, S]
theorem cv1 (a : Int) (w : World) : (convert 60 9 (.slice (some ⟨w.heap.size, 0, none⟩) 1 1)).run Tryd.prog (w.alloc (.cells #[.int .u8 a] 5)) = .ok (.string (strOf [a])) (w.alloc (.cells #[.int .u8 a] 5)) := conv_ns [a] w
theorem cv2 (a b : Int) (w : World) : (convert 60 9 (.slice (some ⟨w.heap.size, 0, none⟩) 2 2)).run Tryd.prog (w.alloc (.cells #[.int .u8 a, .int .u8 b] 5)) = .ok (.string (strOf [a, b])) (w.alloc (.cells #[.int .u8 a, .int .u8 b] 5)) := conv_ns [a, b] w
theorem cv4 (a b c d : Int) (w : World) : (convert 60 9 (.slice (some ⟨w.heap.size, 0, none⟩) 4 4)).run Tryd.prog (w.alloc (.cells #[.int .u8 a, .int .u8 b, .int .u8 c, .int .u8 d] 5)) = .ok (.string (strOf [a, b, c, d])) (w.alloc (.cells #[.int .u8 a, .int .u8 b, .int .u8 c, .int .u8 d] 5)) := conv_ns [a, b, c, d] w
theorem cv8 (a b c d e f g h : Int) (w : World) : (convert 60 9 (.slice (some ⟨w.heap.size, 0, none⟩) 8 8)).run Tryd.prog (w.alloc (.cells #[.int .u8 a, .int .u8 b, .int .u8 c, .int .u8 d, .int .u8 e, .int .u8 f, .int .u8 g, .int .u8 h] 5)) = .ok (.string (strOf [a, b, c, d, e, f, g, h])) (w.alloc (.cells #[.int .u8 a, .int .u8 b, .int .u8 c, .int .u8 d, .int .u8 e, .int .u8 f, .int .u8 g, .int .u8 h] 5)) := conv_ns [a, b, c, d, e, f, g, h] w


set_option maxRecDepth 100000 in
set_option maxHeartbeats 800000 in
theorem put_1 (n : Int) (w : World) (hT : Tab w) (h0 : 0 ≤ n) (h1 : n < 256) :
    Calls Tryd.prog 30 #[.int .i64 n, .int .i64 1] w fun e w' => e = .returned (.string (S (bytesOf n 1))) ∧ Below w.heap.size w w' := by
  have hmk := mk1
  have hcv := cv1
  have hs : isSz 1 = true := rfl
  have hf : fitB n 1 = true := by simp [fitB, lim]; omega
  go_enter Tryd.func30, Tryd.ntmps30
  go_wp2_with (first | (go_at_call 40; refine (isSize_any _ _ hT).mono ?_; rintro e w' ⟨rfl, rfl⟩) | (go_at_call 41; refine (fits_any _ _ _ hs (by omega)).mono ?_; rintro e w' ⟨rfl, rfl⟩))
  refine wp_loop_rounds 2 ?_
  iterate 2 (rw [rounds_succ]; go_wp2)
  go_ret
  exact ⟨ret_str (strOf_1 n h0), (Below.refl _ _).alloc (Nat.le_refl _) _⟩

set_option maxRecDepth 100000 in
set_option maxHeartbeats 800000 in
theorem put_2 (n : Int) (w : World) (hT : Tab w) (h0 : 0 ≤ n) (h1 : n < 65536) :
    Calls Tryd.prog 30 #[.int .i64 n, .int .i64 2] w fun e w' => e = .returned (.string (S (bytesOf n 2))) ∧ Below w.heap.size w w' := by
  have hmk := mk2
  have hcv := cv2
  have hs : isSz 2 = true := rfl
  have hf : fitB n 2 = true := by simp [fitB, lim]; omega
  go_enter Tryd.func30, Tryd.ntmps30
  go_wp2_with (first | (go_at_call 40; refine (isSize_any _ _ hT).mono ?_; rintro e w' ⟨rfl, rfl⟩) | (go_at_call 41; refine (fits_any _ _ _ hs (by omega)).mono ?_; rintro e w' ⟨rfl, rfl⟩))
  refine wp_loop_rounds 3 ?_
  iterate 3 (rw [rounds_succ]; go_wp2)
  go_ret
  exact ⟨ret_str (strOf_2 n h0 h1), (Below.refl _ _).alloc (Nat.le_refl _) _⟩

set_option maxRecDepth 100000 in
set_option maxHeartbeats 800000 in
theorem put_4 (n : Int) (w : World) (hT : Tab w) (h0 : 0 ≤ n) (h1 : n < 4294967296) :
    Calls Tryd.prog 30 #[.int .i64 n, .int .i64 4] w fun e w' => e = .returned (.string (S (bytesOf n 4))) ∧ Below w.heap.size w w' := by
  have hmk := mk4
  have hcv := cv4
  have hs : isSz 4 = true := rfl
  have hf : fitB n 4 = true := by simp [fitB, lim]; omega
  go_enter Tryd.func30, Tryd.ntmps30
  go_wp2_with (first | (go_at_call 40; refine (isSize_any _ _ hT).mono ?_; rintro e w' ⟨rfl, rfl⟩) | (go_at_call 41; refine (fits_any _ _ _ hs (by omega)).mono ?_; rintro e w' ⟨rfl, rfl⟩))
  refine wp_loop_rounds 5 ?_
  iterate 5 (rw [rounds_succ]; go_wp2)
  go_ret
  exact ⟨ret_str (strOf_4 n h0 h1), (Below.refl _ _).alloc (Nat.le_refl _) _⟩

set_option maxRecDepth 100000 in
set_option maxHeartbeats 1600000 in
theorem put_8 (n : Int) (w : World) (hT : Tab w) (h0 : 0 ≤ n) (h1 : n < 9223372036854775808) :
    Calls Tryd.prog 30 #[.int .i64 n, .int .i64 8] w fun e w' => e = .returned (.string (S (bytesOf n 8))) ∧ Below w.heap.size w w' := by
  have hmk := mk8
  have hcv := cv8
  have hs : isSz 8 = true := rfl
  have hf : fitB n 8 = true := by simp [fitB, lim]; omega
  go_enter Tryd.func30, Tryd.ntmps30
  go_wp2_with (first | (go_at_call 40; refine (isSize_any _ _ hT).mono ?_; rintro e w' ⟨rfl, rfl⟩) | (go_at_call 41; refine (fits_any _ _ _ hs (by omega)).mono ?_; rintro e w' ⟨rfl, rfl⟩))
  refine wp_loop_rounds 9 ?_
  iterate 9 (rw [rounds_succ]; go_wp2)
  go_ret
  exact ⟨ret_str (strOf_8 n h0 h1), (Below.refl _ _).alloc (Nat.le_refl _) _⟩

theorem put_nosize (n size : Int) (w : World) (hT : Tab w) (hs : isSz size = false) :
    Calls Tryd.prog 30 #[.int .i64 n, .int .i64 size] w fun e w' => e = .returned (.string (S [])) ∧ Below w.heap.size w w' := by
  go_enter Tryd.func30, Tryd.ntmps30
  go_wp2_with (first | (go_at_call 40; refine (isSize_any _ _ hT).mono ?_; rintro e w' ⟨rfl, rfl⟩))
  go_ret
  exact ⟨rfl, Below.refl _ _⟩
theorem put_nofit (n size : Int) (w : World) (hT : Tab w) (hs : isSz size = true) (hf : fitB n size = false) (hn : n ≤ 9223372036854775807) :
    Calls Tryd.prog 30 #[.int .i64 n, .int .i64 size] w fun e w' => e = .returned (.string (S [])) ∧ Below w.heap.size w w' := by
  go_enter Tryd.func30, Tryd.ntmps30
  go_wp2_with (first | (go_at_call 40; refine (isSize_any _ _ hT).mono ?_; rintro e w' ⟨rfl, rfl⟩) | (go_at_call 41; refine (fits_any _ _ _ hs hn).mono ?_; rintro e w' ⟨rfl, rfl⟩))
  go_ret
  exact ⟨rfl, Below.refl _ _⟩

/-- What Put answers. -/
def putL (n size : Int) : List UInt8 := if isSz size && fitB n size then bytesOf n size.toNat else []
/-- Put, for every argument. -/
theorem put_any (n size : Int) (w : World) (hT : Tab w) (hn : n ≤ 9223372036854775807) :
    Calls Tryd.prog 30 #[.int .i64 n, .int .i64 size] w fun e w' => e = .returned (.string (S (putL n size))) ∧ Below w.heap.size w w' := by
  unfold putL
  cases hs : isSz size with
  | false => simpa using put_nosize n size w hT hs
  | true =>
    cases hf : fitB n size with
    | false => simpa using put_nofit n size w hT hs hf hn
    | true =>
      rcases isSz_of hs with rfl | rfl | rfl | rfl
      all_goals simp [fitB, lim] at hf
      · exact put_1 n w hT (by omega) (by omega)
      · exact put_2 n w hT (by omega) (by omega)
      · exact put_4 n w hT (by omega) (by omega)
      · exact put_8 n w hT (by omega) (by omega)
end Go.Proofs.YtficmbaffkkfhaaDoor
