/- The law's Some: so many leaves (layer 9). -/
import Derived.Test.YtficmbaffkkfhaaDoorUa0
import Derived.Test.YtficmbaffkkfhaaDoorW5
import Derived.Test.YtficmbaffkkfhaaDoorUe
import Derived.Test.YtficmbaffkkfhaaDoorW3
/- Two leaves of the chapter's examples are unlike (layer 9). -/
namespace Go.Proofs.YtficmbaffkkfhaaDoor
open Go.RowKit

/-- A leaf of the law's Some: its bytes. -/
def someB (i seed : Nat) : List UInt8 := [UInt8.ofNat i, UInt8.ofNat (i / 256), UInt8.ofNat seed, UInt8.ofNat (seed / 256), UInt8.ofNat (seed / 65536), UInt8.ofNat (seed / 16777216)]
def someL (n seed : Nat) : List (List UInt8) := (List.range n).map fun i => leafL (someB i seed)
theorem some_length (n seed : Nat) : (someL n seed).length = n := by simp [someL]
theorem some_32 (n seed : Nat) : ∀ x ∈ someL n seed, x.length = 32 := fun x hx => by
  obtain ⟨i, _, rfl⟩ := List.mem_map.1 hx
  exact shaL_length _
theorem two_leaves : (leafL (someB 0 0) == leafL (someB 1 0)) = false := by
  unfold leafL
  rw [shaL_one (0 :: someB 0 0) (by rfl), shaL_one (0 :: someB 1 0) (by rfl)]
  kernel_rfl
end Go.Proofs.YtficmbaffkkfhaaDoor

namespace Go.Proofs.YtficmbaffkkfhaaDoor
open Go.RowKit

theorem some_cells (m seed : Nat) (hm : m < 65536) (hs : seed < 4294967296) : hv (someB m seed) = #[.int .u8 ((m : Int) % 256), .int .u8 ((m : Int) / 256), .int .u8 ((seed : Int) % 256), .int .u8 ((seed : Int) / 256 % 256), .int .u8 ((seed : Int) / 65536 % 256), .int .u8 ((seed : Int) / 16777216)] := by
  have e : ∀ k : Nat, (UInt8.ofNat k).toNat = k % 256 := fun k => by simp
  unfold someB hv
  simp only [List.map_cons, List.map_nil, e]
  rw [show m / 256 % 256 = m / 256 by omega, show seed / 16777216 % 256 = seed / 16777216 by omega]
  simp
theorem fold_set : ∀ (l : List Value) (k : Nat) (Z : Array Value), k + l.length ≤ Z.size → (l.zipIdx k).foldl (fun (cs : Array Value) (x : Value × Nat) => cs.setIfInBounds x.snd x.fst) Z = (Z.toList.take k ++ l ++ Z.toList.drop (k + l.length)).toArray
  | [], k, Z, _ => by simp
  | v :: l, k, Z, h => by
    rw [List.zipIdx_cons, List.foldl_cons, fold_set l (k + 1) _ (by simp at h ⊢; omega)]
    congr 1
    simp only [Array.toList_setIfInBounds, List.length_cons] at h ⊢
    have hk : k < Z.toList.length := by rw [Array.length_toList]; omega
    rw [List.take_add_one, List.take_set_of_le (by omega), List.getElem?_set_self hk, List.drop_set_of_lt (by omega)]
    simp [Nat.add_assoc, Nat.add_comm 1]
theorem build_hash (R : Array Value) (hR : R.size = 32) : Array.foldl (fun (cs : Array Value) (x : Value × Nat) => cs.setIfInBounds x.snd x.fst) (hv (padTo 32 [])) R.zipIdx 0 32 = R := by
  have e : R.zipIdx.size = 32 := by simp [hR]
  have hz : (hv (padTo 32 [])).size = 32 := hz_size
  have h : Array.foldl (fun (cs : Array Value) (x : Value × Nat) => cs.setIfInBounds x.snd x.fst) (hv (padTo 32 [])) R.zipIdx 0 R.zipIdx.size = R := by
    rw [← Array.foldl_toList, Array.toList_zipIdx, fold_set R.toList 0 _ (by rw [Array.length_toList, hR, hz]; omega)]
    have hd : (hv (padTo 32 [])).toList.drop (0 + R.toList.length) = [] := List.drop_eq_nil_of_le (by rw [Array.length_toList, Array.length_toList, hz, hR]; omega)
    rw [hd]
    simp
  rwa [e] at h
theorem HsAt.made (w : World) (x : List UInt8) (hx : x.length = 32) : HsAt (w.alloc (.cells (hv x) 23)) (.slice (some ⟨w.heap.size, 0, none⟩) [x].length 1) [x] := by
  refine ⟨_, _, rfl, fun i y hi => ?_⟩
  have hi0 : i = 0 := by have := (List.getElem?_eq_some_iff.1 hi).1; simpa using this
  subst hi0
  obtain rfl := Option.some.inj hi
  refine ⟨hx, _, _, rfl, fun j v hj => ?_⟩
  rw [cell_of_row _ _ _ _ _ _ (heap_alloc_last w _), ← Array.getElem?_toList]
  simpa using hj
set_option maxRecDepth 100000 in
set_option maxHeartbeats 2000000 in
theorem some_any {w : World} (n seed : Nat) (hK : TabL w) (hn : n ≤ 1000) (hs : seed < 4294967296) : Calls Tryd.prog 15 #[.int .i64 n, .int .u32 seed] w fun e w' => ∃ a c, e = .returned (.slice a n c) ∧ Mh w w.heap.size (.slice a n c) (someL n seed) w' := by
  have HK : Hid (∀ w', Below w.heap.size w w' → TabL w') := fun w' h => hK.below h hK.lt
  have HM0 : Hid (Mh w w.heap.size (.slice none 0 0) [] w) := Mh.start w
  clear hK
  go_enter Tryd.func15, Tryd.ntmps15
  go_wp2
  go_loopw [5, 6] (fun ov iv wr => ∃ m : Nat, m ≤ n ∧ iv = .int .i64 m ∧ ∃ xa xc, ov = .slice xa m xc ∧ Mh w w.heap.size (.slice xa m xc) (someL m seed) wr) (fun _ iv _ => n - (intOf iv).toNat)
  case atStart => exact ⟨0, Nat.zero_le _, rfl, none, 0, rfl, HM0.out⟩
  case round =>
    obtain ⟨m, hm, rfl, xa, xc, rfl, hM⟩ := hrel
    by_cases hlt : m < n
    · have hlt2 : (m : Int) < (n : Int) := by omega
      have hcells := some_cells m seed (by omega) hs
      have hcv : (convert 60 9 (.slice (some ⟨wr.heap.size, 0, none⟩) 6 6)).run Tryd.prog (wr.alloc (.cells #[.int .u8 ((m : Int) % 256), .int .u8 ((m : Int) / 256), .int .u8 ((seed : Int) % 256), .int .u8 ((seed : Int) / 256 % 256), .int .u8 ((seed : Int) / 65536 % 256), .int .u8 ((seed : Int) / 16777216)] 5)) = .ok (.string (S (someB m seed))) (wr.alloc (.cells #[.int .u8 ((m : Int) % 256), .int .u8 ((m : Int) / 256), .int .u8 ((seed : Int) % 256), .int .u8 ((seed : Int) / 256 % 256), .int .u8 ((seed : Int) / 65536 % 256), .int .u8 ((seed : Int) / 16777216)] 5)) := by
        rw [← hcells]
        exact conv_row (someB m seed) _ wr.heap.size 6 5 (0, 0) (heap_alloc_last wr _)
      have hMa := hM.alloc (.cells (hv (someB m seed)) 5)
      rw [hcells] at hMa
      obtain ⟨w1, hw1⟩ : ∃ w1, wr.alloc (.cells #[.int .u8 ((m : Int) % 256), .int .u8 ((m : Int) / 256), .int .u8 ((seed : Int) % 256), .int .u8 ((seed : Int) / 256 % 256), .int .u8 ((seed : Int) / 65536 % 256), .int .u8 ((seed : Int) / 16777216)] 5) = w1 := ⟨_, rfl⟩
      rw [hw1] at hMa hcv
      have HMa : Hid _ := hMa
      have HLf : Hid (Calls Tryd.prog 27 #[.string (S (someB m seed))] w1 fun e w' => e = .returned (.agg (hv (leafL (someB m seed)))) ∧ Below w1.heap.size w1 w') := leaf_any _ w1 (HK.out w1 hMa.below) (by simp [someB])
      have HMd : Hid (∀ w' : World, HsAt (w'.alloc (.cells (hv (leafL (someB m seed))) 23)) (.slice (some ⟨w'.heap.size, 0, none⟩) [leafL (someB m seed)].length 1) [leafL (someB m seed)]) := fun w' => HsAt.made w' _ (shaL_length _)
      have hst : Hid (someL m seed ++ [leafL (someB m seed)] = someL (m + 1) seed) := by show _ = _; unfold someL; rw [List.range_succ, List.map_append]; rfl
      have hsl : Hid ((someL (m + 1) seed).length = m + 1) := some_length _ _
      have sR : (hv (leafL (someB m seed))).size = 32 := by rw [hv_size]; exact shaL_length _
      generalize S (someB m seed) = D at *
      clear hM hcells hMa
      generalize leafL (someB m seed) = X at *
      have hbld := build_hash (hv X) sR
      rw [zero_h32] at hbld
      go_wp2_with fail
      refine HLf.out.mono ?_
      rintro e w2 ⟨rfl, b2⟩
      have hM2 := (HMa.out.next b2).alloc (.cells (hv X) 23)
      have hNx := HMd.out w2
      clear b2 hw1 hcv HMa HLf HMd
      generalize hv X = R at *
      go_wp2_with (first | (refine wpList_append_mh rfl (.tmp 12) (.tmp 32) rfl hM2 ⟨w2.heap.size, 0, none⟩ 1 rfl rfl hNx (someL (m + 1) seed) (m + 1) hst.out hsl.out (by omega) ?_; intro ya yc w3 _ hM3; have HM3 : Hid _ := hM3; clear hM2 hNx hM3) | fail)
      go_roundw
      case rel => exact ⟨m + 1, by omega, by go_num, ya, yc, rfl, HM3.out⟩
      case measure => simp [intOf]; omega
    · obtain rfl : m = n := by omega
      have hlt2 : ¬ (m : Int) < (m : Int) := by omega
      have HM : Hid _ := hM
      clear hM HM0
      go_wp2
      go_ret
      exact ⟨xa, xc, rfl, HM.out⟩
end Go.Proofs.YtficmbaffkkfhaaDoor
