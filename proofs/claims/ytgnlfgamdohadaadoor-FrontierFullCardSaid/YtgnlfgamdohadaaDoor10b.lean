/- How many 1 bits a number has, as it is counted in parallel; how many stand at its end (layer 10). -/
import Derived.Test.YtgnlfgamdohadaaDoor10a
import Derived.Lib.TrailingZeros
namespace Go.Proofs.YtgnlfgamdohadaaDoor

/-- The same in each of so many bytes. -/
def byM (f : Nat → Nat) : Nat → Nat → Nat
  | 0, _ => 0
  | k + 1, x => 256 * byM f k (x / 256) + f (x % 256)
def mask (c : Nat) : Nat → Nat
  | 0 => 0
  | k + 1 => 256 * mask c k + c
theorem and_split {a b c d : Nat} (hb : b < 256) (hd : d < 256) : (256 * a + b) &&& (256 * c + d) = 256 * (a &&& c) + (b &&& d) := by
  have h1 : ((256 * a + b) &&& (256 * c + d)) / 2 ^ 8 = a &&& c := by
    rw [Nat.and_div_two_pow]
    congr 1 <;> omega
  have h2 : ((256 * a + b) &&& (256 * c + d)) % 2 ^ 8 = b &&& d := by
    rw [Nat.and_mod_two_pow]
    congr 1 <;> omega
  omega
def a1 (r : Nat) : Nat := (r / 2 &&& 85) + (r &&& 85)
def a2 (r : Nat) : Nat := (r / 4 &&& 51) + (r &&& 51)
def a3 (r : Nat) : Nat := (r / 16 + r) &&& 15
theorem a1_top : ∀ (t : Fin 2) (r : Fin 256), (128 * t.val + r.val / 2) &&& 85 = r.val / 2 &&& 85 := by decide +kernel
theorem a2_top : ∀ (t : Fin 4) (r : Fin 256), (64 * t.val + r.val / 4) &&& 51 = r.val / 4 &&& 51 := by decide +kernel
theorem a3_top : ∀ (t : Fin 5) (r : Fin 256), (16 * t.val + r.val / 16 + a2 (a1 r.val)) &&& 15 = (r.val / 16 + a2 (a1 r.val)) &&& 15 := by decide +kernel
theorem a3_top' : ∀ (t : Fin 5) (r : Fin 256), (16 * t.val + a2 (a1 r.val) / 16 + a2 (a1 r.val)) &&& 15 = a3 (a2 (a1 r.val)) := by decide +kernel
theorem a1_lt : ∀ r : Fin 256, a1 r.val < 256 := by decide +kernel
theorem a2_lt : ∀ r : Fin 256, a2 (a1 r.val) ≤ 68 ∧ a2 (a1 r.val) % 16 ≤ 4 := by decide +kernel
theorem a3_pc : ∀ r : Fin 256, a3 (a2 (a1 r.val)) = Lib.onesCount r.val ∧ Lib.onesCount r.val ≤ 8 := by decide +kernel
theorem byM_div (f : Nat → Nat) (k x : Nat) (h : f (x % 256) < 256) : byM f (k + 1) x / 256 = byM f k (x / 256) := by rw [byM]; omega
theorem byM_mod (f : Nat → Nat) (k x : Nat) (h : f (x % 256) < 256) : byM f (k + 1) x % 256 = f (x % 256) := by rw [byM]; omega
theorem swar1 : ∀ k x, (x / 2 &&& mask 85 k) + (x &&& mask 85 k) = byM a1 k x
  | 0, x => by simp [mask, byM]
  | k + 1, x => by
    have h1 := swar1 k (x / 256)
    have e1 : x / 2 = 256 * (x / 256 / 2) + (128 * (x / 256 % 2) + x % 256 / 2) := by omega
    have e2 : x = 256 * (x / 256) + x % 256 := by omega
    have h2 : (128 * (x / 256 % 2) + x % 256 / 2) &&& 85 = x % 256 / 2 &&& 85 := a1_top ⟨x / 256 % 2, by omega⟩ ⟨x % 256, by omega⟩
    have h3 : x &&& mask 85 (k + 1) = 256 * (x / 256 &&& mask 85 k) + (x % 256 &&& 85) := by
      conv => lhs; rw [e2, mask]
      exact and_split (by omega) (by omega)
    have h4 : x / 2 &&& mask 85 (k + 1) = 256 * (x / 256 / 2 &&& mask 85 k) + (x % 256 / 2 &&& 85) := by
      rw [e1, mask, and_split (by omega) (by omega), h2]
    rw [h3, h4, byM, ← h1, a1]
    omega
theorem swar2 : ∀ k x, (byM a1 k x / 4 &&& mask 51 k) + (byM a1 k x &&& mask 51 k) = byM (fun r => a2 (a1 r)) k x
  | 0, x => by simp [mask, byM]
  | k + 1, x => by
    have h1 := swar2 k (x / 256)
    have hs : a1 (x % 256) < 256 := a1_lt ⟨x % 256, by omega⟩
    have h2 : (64 * (byM a1 k (x / 256) % 4) + a1 (x % 256) / 4) &&& 51 = a1 (x % 256) / 4 &&& 51 := a2_top ⟨byM a1 k (x / 256) % 4, by omega⟩ ⟨a1 (x % 256), hs⟩
    rw [byM, byM, ← h1]
    generalize byM a1 k (x / 256) = y at *
    show _ = 256 * _ + ((a1 (x % 256) / 4 &&& 51) + (a1 (x % 256) &&& 51))
    generalize a1 (x % 256) = s at *
    rw [show (256 * y + s) / 4 = 256 * (y / 4) + (64 * (y % 4) + s / 4) by omega, mask, and_split (by omega) (by omega), and_split (by omega) (by omega), h2]
    omega
theorem swar3 : ∀ k x, (byM (fun r => a2 (a1 r)) k x / 16 + byM (fun r => a2 (a1 r)) k x) &&& mask 15 k = byM (fun r => a3 (a2 (a1 r))) k x
  | 0, x => by simp [mask, byM]
  | k + 1, x => by
    have h1 := swar3 k (x / 256)
    obtain ⟨hs, hs2⟩ := a2_lt ⟨x % 256, by omega⟩
    have hy : byM (fun r => a2 (a1 r)) k (x / 256) % 16 ≤ 4 := by
      cases k with
      | zero => simp [byM]
      | succ k =>
        obtain ⟨ht, ht2⟩ := a2_lt ⟨x / 256 % 256, by omega⟩
        rw [byM]
        simp only at ht ht2 ⊢
        omega
    have h2 : (16 * (byM (fun r => a2 (a1 r)) k (x / 256) % 16) + a2 (a1 (x % 256)) / 16 + a2 (a1 (x % 256))) &&& 15 = a3 (a2 (a1 (x % 256))) := a3_top' ⟨byM (fun r => a2 (a1 r)) k (x / 256) % 16, by omega⟩ ⟨x % 256, by omega⟩
    rw [byM, byM, ← h1]
    simp only at hs hs2 ⊢
    generalize byM (fun r => a2 (a1 r)) k (x / 256) = y at *
    rw [← h2]
    generalize a2 (a1 (x % 256)) = s at *
    rw [show (256 * y + s) / 16 + (256 * y + s) = 256 * (y / 16 + y) + (16 * (y % 16) + s / 16 + s) by omega, mask, and_split (by omega) (by omega)]
theorem pc_pop : ∀ (f x : Nat), x < 2 ^ f → Lib.popAux f x = pcN x
  | 0, x, h => by
    obtain rfl : x = 0 := by simpa using h
    exact pc_zero.symm
  | f + 1, x, h => by
    rw [Nat.pow_succ] at h
    rw [Lib.popAux, pc_pop f (x / 2) (by omega)]
    by_cases h0 : x = 0
    · subst h0; rw [pc_zero]; 
    · conv => rhs; rw [pcN, if_neg h0]
theorem pc_split : ∀ (k q r : Nat), r < 2 ^ k → pcN (2 ^ k * q + r) = pcN q + pcN r
  | 0, q, r, h => by
    obtain rfl : r = 0 := by simpa using h
    rw [pc_zero]; simp
  | k + 1, q, r, h => by
    rw [Nat.pow_succ] at h
    rcases two_or r with ⟨m, rfl⟩ | ⟨m, rfl⟩
    · rw [show 2 ^ (k + 1) * q + 2 * m = 2 * (2 ^ k * q + m) by rw [Nat.pow_succ, Nat.mul_add, Nat.mul_comm (2 ^ k) 2, Nat.mul_assoc], pc_two, pc_two, pc_split k q m (by omega)]
    · rw [show 2 ^ (k + 1) * q + (2 * m + 1) = 2 * (2 ^ k * q + m) + 1 by rw [Nat.pow_succ, Nat.mul_add, Nat.mul_comm (2 ^ k) 2, Nat.mul_assoc]; omega, pc_odd, pc_odd, pc_split k q m (by omega)]
      omega
def a4 (r : Nat) : Nat := a3 (a2 (a1 r))
theorem a4_is (r : Nat) (h : r < 256) : a4 r = pcN r ∧ a4 r ≤ 8 := by
  obtain ⟨h1, h2⟩ := a3_pc ⟨r, h⟩
  simp only at h1 h2
  have h3 : a4 r = Lib.onesCount r := h1
  have h4 : Lib.onesCount r = pcN r := pc_pop 64 r (by omega)
  exact ⟨h3.trans h4, by omega⟩
theorem pc_byte (x : Nat) : pcN x = pcN (x / 256) + a4 (x % 256) := by
  rw [(a4_is (x % 256) (by omega)).1]
  have := pc_split 8 (x / 256) (x % 256) (by omega)
  rw [← this]
  congr 1
  omega
theorem fold8 (z x : Nat) (hx : x < 18446744073709551616) (hz : z = byM a4 8 x) : (z + z / 256 + (z + z / 256) / 65536 + (z + z / 256 + (z + z / 256) / 65536) / 4294967296) % 128 = pcN x ∧ z < 1157442765409226769 := by
  have p0 := pc_byte x
  have p1 := pc_byte (x / 256)
  have p2 := pc_byte (x / 256 / 256)
  have p3 := pc_byte (x / 256 / 256 / 256)
  have p4 := pc_byte (x / 256 / 256 / 256 / 256)
  have p5 := pc_byte (x / 256 / 256 / 256 / 256 / 256)
  have p6 := pc_byte (x / 256 / 256 / 256 / 256 / 256 / 256)
  have p7 := pc_byte (x / 256 / 256 / 256 / 256 / 256 / 256 / 256)
  have p8 : x / 256 / 256 / 256 / 256 / 256 / 256 / 256 / 256 = 0 := by omega
  rw [p8, pc_zero] at p7
  have q0 := (a4_is (x % 256) (by omega)).2
  have q1 := (a4_is (x / 256 % 256) (by omega)).2
  have q2 := (a4_is (x / 256 / 256 % 256) (by omega)).2
  have q3 := (a4_is (x / 256 / 256 / 256 % 256) (by omega)).2
  have q4 := (a4_is (x / 256 / 256 / 256 / 256 % 256) (by omega)).2
  have q5 := (a4_is (x / 256 / 256 / 256 / 256 / 256 % 256) (by omega)).2
  have q6 := (a4_is (x / 256 / 256 / 256 / 256 / 256 / 256 % 256) (by omega)).2
  have q7 := (a4_is (x / 256 / 256 / 256 / 256 / 256 / 256 / 256 % 256) (by omega)).2
  rw [byM, byM, byM, byM, byM, byM, byM, byM, byM] at hz
  generalize a4 (x % 256) = w0 at *
  generalize a4 (x / 256 % 256) = w1 at *
  generalize a4 (x / 256 / 256 % 256) = w2 at *
  generalize a4 (x / 256 / 256 / 256 % 256) = w3 at *
  generalize a4 (x / 256 / 256 / 256 / 256 % 256) = w4 at *
  generalize a4 (x / 256 / 256 / 256 / 256 / 256 % 256) = w5 at *
  generalize a4 (x / 256 / 256 / 256 / 256 / 256 / 256 % 256) = w6 at *
  generalize a4 (x / 256 / 256 / 256 / 256 / 256 / 256 / 256 % 256) = w7 at *
  have hp : pcN x = w0 + w1 + w2 + w3 + w4 + w5 + w6 + w7 := by omega
  rw [hp]
  clear p0 p1 p2 p3 p4 p5 p6 p7 p8 hp hx
  have hz' : z = w0 + 256 * w1 + 65536 * w2 + 16777216 * w3 + 4294967296 * w4 + 1099511627776 * w5 + 281474976710656 * w6 + 72057594037927936 * w7 := by rw [hz]; omega
  have d1 : z / 256 = w1 + 256 * w2 + 65536 * w3 + 16777216 * w4 + 4294967296 * w5 + 1099511627776 * w6 + 281474976710656 * w7 := by omega
  have e1 : z + z / 256 = (w0 + w1) + 256 * (w1 + w2) + 65536 * (w2 + w3) + 16777216 * (w3 + w4) + 4294967296 * (w4 + w5) + 1099511627776 * (w5 + w6) + 281474976710656 * (w6 + w7) + 72057594037927936 * w7 := by omega
  have hlt : z < 1157442765409226769 := by omega
  generalize z + z / 256 = y at *
  clear d1 hz
  have d2 : y / 65536 = (w2 + w3) + 256 * (w3 + w4) + 65536 * (w4 + w5) + 16777216 * (w5 + w6) + 4294967296 * (w6 + w7) + 1099511627776 * w7 := by clear hz' hlt; omega
  have e2 : y + y / 65536 = (w0 + w1 + w2 + w3) + 256 * (w1 + w2 + w3 + w4) + 65536 * (w2 + w3 + w4 + w5) + 16777216 * (w3 + w4 + w5 + w6) + 4294967296 * (w4 + w5 + w6 + w7) + 1099511627776 * (w5 + w6 + w7) + 281474976710656 * (w6 + w7) + 72057594037927936 * w7 := by clear hz' hlt; omega
  generalize y + y / 65536 = v at *
  clear d2 e1 hz'
  have d3 : v / 4294967296 = (w4 + w5 + w6 + w7) + 256 * (w5 + w6 + w7) + 65536 * (w6 + w7) + 16777216 * w7 := by clear hlt; omega
  exact ⟨by clear hlt; omega, hlt⟩
/-- How many 0 bits stand at the end of what a number lacks. -/
theorem ctz_not : ∀ (k n : Nat), n + 1 < 2 ^ k → Lib.ctzFrom k (2 ^ k - 1 - n) = tlN n
  | 0, n, h => by simp at h
  | k + 1, n, h => by
    rw [Nat.pow_succ] at h
    rw [Lib.ctzFrom, Nat.pow_succ]
    rcases two_or n with ⟨m, rfl⟩ | ⟨m, rfl⟩
    · rw [if_pos (by omega), tl_two]
    · rw [if_neg (by omega), tl_odd, show (2 ^ k * 2 - 1 - (2 * m + 1)) / 2 = 2 ^ k - 1 - m by omega, ctz_not k m (by omega), Nat.add_comm]
end Go.Proofs.YtgnlfgamdohadaaDoor
