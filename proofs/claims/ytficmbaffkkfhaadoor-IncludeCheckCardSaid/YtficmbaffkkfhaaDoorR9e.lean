/- The document's own Split (layer 9). -/
import Derived.Test.YtficmbaffkkfhaaDoorUb
import Derived.Test.YtficmbaffkkfhaaDoorR9e0
namespace Go.Proofs.YtficmbaffkkfhaaDoor
open Go.RowKit

set_option maxRecDepth 100000 in
theorem rsplit_any (n : Int) (w : World) (h1 : -9223372036854775808 ≤ n) (h2 : n < 9223372036854775808) : Calls Tryd.prog 23 #[.int .i64 n] w fun e w' => e = .returned (.int .i64 (splitZ n)) ∧ w' = w := by
  by_cases hn : n < 2
  · have hR : Hid ((0 : Int) = splitZ n) := by show _ = _; unfold splitZ; rw [split_small (by omega)]; rfl
    go_enter Tryd.func23, Tryd.ntmps23
    go_wp2
    go_ret
    exact ⟨by rw [← hR.out]; rfl, rfl⟩
  go_enter Tryd.func23, Tryd.ntmps23
  go_wp2
  go_loopw [3] (fun kv wr => wr = w ∧ ∃ k : Nat, kv = .int .i64 k ∧ (∃ e, k = 2 ^ e) ∧ (k : Int) < n) (fun kv _ => n.toNat - (intOf kv).toNat)
  case atStart => exact ⟨rfl, 1, rfl, ⟨0, rfl⟩, by omega⟩
  case round =>
    obtain ⟨rfl, k, rfl, he, hk⟩ := hrel
    have hpos : 0 < k := by obtain ⟨e, rfl⟩ := he; exact Nat.pow_pos (by decide)
    have hws : wrap64 (n - (k : Int)) = n - (k : Int) := by unfold wrap64; omega
    by_cases hlt : (k : Int) < n - (k : Int)
    · have hwm : wrap64 ((k : Int) * 2) = (k : Int) * 2 := by unfold wrap64; omega
      have HE : Hid (∃ e, k * 2 = 2 ^ e) := by obtain ⟨e, rfl⟩ := he; exact ⟨e + 1, by rw [Nat.pow_succ]⟩
      clear he
      go_wp2
      go_roundw
      case rel => exact ⟨by first | rfl | trivial, k * 2, by go_num, HE.out, by omega⟩
      case measure => simp [intOf]; omega
    · have hR : Hid ((k : Int) = splitZ n) := by
        show _ = _
        unfold splitZ
        rw [split_is he (n := n.toNat) (by omega) (by omega)]
      clear he
      go_wp2
      go_ret
      exact ⟨by rw [← hR.out]; rfl, rfl⟩
end Go.Proofs.YtficmbaffkkfhaaDoor
