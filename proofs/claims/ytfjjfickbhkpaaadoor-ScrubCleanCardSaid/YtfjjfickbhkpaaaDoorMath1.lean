/-
  Plain numbers for layer 1: what the calls of package ints answer. No program.
-/
import Derived.Laws.Bits64b
import Derived.Laws.BitsAllLaws
import Derived.Lib.TrailingZeros
import Derived.Lib.BitFns
import Derived.RowKit
import Derived.IntWalk
namespace Go.Proofs.YtfjjfickbhkpaaaDoor
open Go.RowKit

/-- How many bits are set, of a number below 2^f. -/
def popF : Nat → Nat → Nat
  | 0, _ => 0
  | f + 1, v => v % 2 + popF f (v / 2)
def pop (v : Nat) : Nat := popF 64 v
/-- The value of a number of b bits, with a sign. -/
def sgn (v b : Nat) : Int := if v < 2 ^ (b - 1) then (v : Int) else (v : Int) - 2 ^ b
/-- The least multiple of 2^k that is not below n. -/
def upTo (n k : Nat) : Nat := (n + 2 ^ k - 1) / 2 ^ k * 2 ^ k

theorem pow_pos' (k : Nat) : 0 < 2 ^ k := Nat.pow_pos (by decide)
theorem pow_split (b : Nat) (h : b ≤ 64) : 2 ^ b * 2 ^ (64 - b) = 18446744073709551616 := by
  rw [← Nat.pow_add, show b + (64 - b) = 64 from by omega]
theorem pow_le63 (k : Nat) (h : k ≤ 63) : 2 ^ k ≤ 9223372036854775808 := by
  have := Nat.pow_le_pow_right (n := 2) (by decide) h; omega
theorem pow_le64 (k : Nat) (h : k ≤ 64) : 2 ^ k ≤ 18446744073709551616 := by
  have := Nat.pow_le_pow_right (n := 2) (by decide) h; omega

/-- v<<(64-b)>>(64-b), as the walk writes it. -/
theorem sgn_shift (v b : Nat) (h1 : 1 ≤ b) (h2 : b ≤ 64) (hv : v < 2 ^ b) :
    wrap64 (IntKind.u64.wrap ((v : Int) * 2 ^ (64 - b))) / 2 ^ (64 - b) = sgn v b := by
  have hp := pow_split b h2
  have hq := pow_pos' (64 - b)
  have hsub : 2 ^ b = 2 * 2 ^ (b - 1) := by
    rw [← Nat.pow_succ', show (b - 1).succ = b from by omega]
  generalize hP : 2 ^ (64 - b) = P at *
  generalize hR : 2 ^ (b - 1) = R at *
  generalize hB : 2 ^ b = B at *
  have hcast : (2 : Int) ^ (64 - b) = (P : Int) := by rw [← hP]; simp
  have hcastB : (2 : Int) ^ b = (B : Int) := by rw [← hB]; simp
  have hlt : v * P < 18446744073709551616 := by rw [← hp]; exact Nat.mul_lt_mul_of_pos_right hv hq
  have hRP : R * P = 9223372036854775808 := by
    have : 2 * (R * P) = 18446744073709551616 := by rw [← Nat.mul_assoc, ← hsub]; exact hp
    omega
  rw [hcast, IntKind.wrap_u64]
  have e1 : ((v : Int) * (P : Int)) % 18446744073709551616 = ((v * P : Nat) : Int) := by
    rw [← Int.natCast_mul]; omega
  rw [e1]
  unfold wrap64 sgn
  rw [hcastB, hR]
  by_cases hc : v < R
  · rw [if_pos hc]
    have : v * P < R * P := Nat.mul_lt_mul_of_pos_right hc hq
    have e2 : (((v * P : Nat) : Int) + 9223372036854775808) % 18446744073709551616 - 9223372036854775808 = ((v * P : Nat) : Int) := by omega
    rw [e2, ← Int.natCast_ediv, Nat.mul_div_cancel _ hq]
  · rw [if_neg hc]
    have : R * P ≤ v * P := Nat.mul_le_mul_right _ (by omega)
    have e2 : (((v * P : Nat) : Int) + 9223372036854775808) % 18446744073709551616 - 9223372036854775808 = ((v * P : Nat) : Int) - 18446744073709551616 := by omega
    rw [e2]
    have e3 : ((v * P : Nat) : Int) - 18446744073709551616 = ((v : Int) - (B : Int)) * (P : Int) := by
      rw [Int.sub_mul, ← Int.natCast_mul, ← Int.natCast_mul, hp]; rfl
    rw [e3, Int.mul_ediv_cancel _ (by omega)]

/-! ### 2^k - 1 beneath, and Up -/
theorem wrap_pow (k : Nat) (h : k < 64) : IntKind.u64.wrap ((2 : Int) ^ k) = ((2 ^ k : Nat) : Int) := by
  have := pow_le63 k (by omega)
  have e : (2 : Int) ^ k = ((2 ^ k : Nat) : Int) := by simp
  rw [e, IntKind.wrap_u64]
  generalize 2 ^ k = P at *
  omega
theorem wrap_ones (k : Nat) (h : k < 64) : IntKind.u64.wrap (IntKind.u64.wrap ((2 : Int) ^ k) - 1) = ((2 ^ k - 1 : Nat) : Int) := by
  have := pow_le63 k (by omega); have := pow_pos' k
  rw [wrap_pow k h, IntKind.wrap_u64]
  generalize 2 ^ k = P at *
  omega
theorem and_ones (n k : Nat) (hn : n < 18446744073709551616) (h : k < 64) :
    bits .and .u64 (n : Int) (IntKind.u64.wrap (IntKind.u64.wrap ((2 : Int) ^ k) - 1)) = ((n % 2 ^ k : Nat) : Int) := by
  have := pow_le63 k (by omega)
  rw [wrap_ones k h, bits_and_u64_nat n _ hn (by omega), Nat.and_two_pow_sub_one_eq_mod]
theorem or_ones (n k : Nat) (hn : n < 18446744073709551616) (h : k < 64) :
    bits .or .u64 (n : Int) (IntKind.u64.wrap (IntKind.u64.wrap ((2 : Int) ^ k) - 1)) = ((n / 2 ^ k * 2 ^ k + (2 ^ k - 1) : Nat) : Int) := by
  have := pow_le63 k (by omega); have hp := pow_pos' k
  rw [wrap_ones k h, bits_or_u64_nat n _ hn (by omega)]
  congr 1
  apply Nat.eq_of_testBit_eq
  intro i
  have e : n / 2 ^ k * 2 ^ k + (2 ^ k - 1) = 2 ^ k * (n / 2 ^ k) + (2 ^ k - 1) := by rw [Nat.mul_comm]
  rw [e, Nat.testBit_or, Nat.testBit_two_pow_sub_one, Nat.testBit_two_pow_mul_add _ (by omega)]
  by_cases hi : i < k
  · simp [hi, Nat.testBit_two_pow_sub_one]
  · simp [hi, Nat.testBit_div_two_pow, Nat.sub_add_cancel (Nat.le_of_not_lt hi)]
theorem or_next (n k : Nat) (hn : n < 18446744073709551616) (h : k < 64) :
    IntKind.u64.wrap (bits .or .u64 (n : Int) (IntKind.u64.wrap (IntKind.u64.wrap ((2 : Int) ^ k) - 1)) + 1) = (((n / 2 ^ k + 1) * 2 ^ k % 18446744073709551616 : Nat) : Int) := by
  have hp := pow_pos' k
  rw [or_ones n k hn h, IntKind.wrap_u64, Nat.add_mul]
  generalize n / 2 ^ k * 2 ^ k = a
  omega
/-- The next multiple is at most 2^64. -/
theorem next_le (n k : Nat) (hn : n < 18446744073709551616) (h : k < 64) : (n / 2 ^ k + 1) * 2 ^ k ≤ 18446744073709551616 := by
  have hs := pow_split k (by omega)
  have : n / 2 ^ k < 2 ^ (64 - k) := by
    apply Nat.div_lt_of_lt_mul; rw [hs]; exact hn
  calc (n / 2 ^ k + 1) * 2 ^ k ≤ 2 ^ (64 - k) * 2 ^ k := Nat.mul_le_mul_right _ this
    _ = 18446744073709551616 := by rw [Nat.mul_comm]; exact hs

/-! ### How many bits: the library's sum of halves -/
def M5 : Nat → Nat | 0 => 0 | f + 1 => 85 + 256 * M5 f
def M3 : Nat → Nat | 0 => 0 | f + 1 => 51 + 256 * M3 f
def MF : Nat → Nat | 0 => 0 | f + 1 => 15 + 256 * MF f
def F1 (f n : Nat) : Nat := (n / 2 &&& M5 f) + (n &&& M5 f)
def F2 (f x : Nat) : Nat := (x / 4 &&& M3 f) + (x &&& M3 f)
def F3 (f x : Nat) : Nat := (x / 16 + x) &&& MF f
def g1 (b : Nat) : Nat := (b / 2 &&& 85) + (b &&& 85)
def g2 (b : Nat) : Nat := (b / 4 &&& 51) + (b &&& 51)
def g3 (b : Nat) : Nat := (b / 16 + b) &&& 15
def Bv : Nat → Nat → Nat | 0, _ => 0 | f + 1, n => popF 8 (n % 256) + 256 * Bv f (n / 256)

theorem and_split (a c x m : Nat) (ha : a < 256) (hc : c < 256) : (a + 256 * x) &&& (c + 256 * m) = (a &&& c) + 256 * (x &&& m) := by
  have h1 : ((a + 256 * x) &&& (c + 256 * m)) % 2 ^ 8 = a &&& c := by
    rw [Nat.and_mod_two_pow]; congr 1 <;> omega
  have h2 : ((a + 256 * x) &&& (c + 256 * m)) / 2 ^ 8 = x &&& m := by
    rw [Nat.and_div_two_pow]; congr 1 <;> omega
  have h3 : a &&& c < 2 ^ 8 := Nat.and_lt_two_pow _ (by omega)
  omega
theorem d1 : ∀ b : Fin 256, ∀ c : Fin 2, (b.val / 2 + 128 * c.val) &&& 85 = b.val / 2 &&& 85 := by decide +kernel
theorem d2 : ∀ b : Fin 256, ∀ c : Fin 4, (b.val / 4 + 64 * c.val) &&& 51 = b.val / 4 &&& 51 := by decide +kernel
theorem d3 : ∀ b : Fin 256, g3 (g2 (g1 b.val)) = popF 8 b.val ∧ g1 b.val < 256 ∧ g2 (g1 b.val) < 256 ∧ g2 (g1 b.val) % 16 ≤ 4 ∧ g2 (g1 b.val) / 16 ≤ 4 ∧ popF 8 b.val ≤ 8 := by decide +kernel
theorem d3' (b : Nat) (h : b < 256) : g3 (g2 (g1 b)) = popF 8 b ∧ g1 b < 256 ∧ g2 (g1 b) < 256 ∧ g2 (g1 b) % 16 ≤ 4 ∧ g2 (g1 b) / 16 ≤ 4 ∧ popF 8 b ≤ 8 := d3 ⟨b, h⟩
theorem F1_succ (f n : Nat) : F1 (f + 1) n = g1 (n % 256) + 256 * F1 f (n / 256) := by
  have e1 : n / 2 = (n % 256 / 2 + 128 * (n / 256 % 2)) + 256 * (n / 256 / 2) := by omega
  have e2 : n = n % 256 + 256 * (n / 256) := by omega
  have k1 : (n / 2) &&& M5 (f + 1) = (n % 256 / 2 &&& 85) + 256 * (n / 256 / 2 &&& M5 f) := by
    rw [e1, M5, and_split _ _ _ _ (by omega) (by omega), d1 ⟨n % 256, by omega⟩ ⟨n / 256 % 2, by omega⟩]
  have k2 : n &&& M5 (f + 1) = (n % 256 &&& 85) + 256 * (n / 256 &&& M5 f) := by
    conv => lhs; rw [e2]
    rw [M5, and_split _ _ _ _ (by omega) (by omega)]
  unfold F1 g1
  rw [k1, k2]; omega
theorem F2_step (f c x : Nat) (hc : c < 256) : F2 (f + 1) (c + 256 * x) = g2 c + 256 * F2 f x := by
  have e1 : (c + 256 * x) / 4 = (c / 4 + 64 * (x % 4)) + 256 * (x / 4) := by omega
  unfold F2 g2
  rw [e1, M3, and_split _ _ _ _ (by omega) (by omega), and_split _ _ _ _ (by omega) (by omega), d2 ⟨c, hc⟩ ⟨x % 4, by omega⟩]
  show (c / 4 &&& 51) + _ + _ = _
  omega
theorem F3_step (f c x : Nat) (h1 : c % 16 ≤ 4) (h2 : c / 16 ≤ 4) (h3 : x % 16 ≤ 4) : F3 (f + 1) (c + 256 * x) = g3 c + 256 * F3 f x := by
  have e1 : (c + 256 * x) / 16 + (c + 256 * x) = (c / 16 + 16 * (x % 16) + c) + 256 * (x / 16 + x) := by omega
  unfold F3 g3
  rw [e1, MF, and_split _ _ _ _ (by omega) (by omega)]
  have e2 : c / 16 + 16 * (x % 16) + c &&& 15 = (c / 16 + c) &&& 15 := by
    rw [nat_mask4, nat_mask4]; omega
  rw [e2]
theorem F_low (f n : Nat) : F2 f (F1 f n) % 16 ≤ 4 := by
  cases f with
  | zero => simp [F2, M3]
  | succ f =>
    obtain ⟨_, a, b, c, _⟩ := d3' (n % 256) (by omega)
    rw [F1_succ, F2_step _ _ _ a]
    omega
theorem F_all : ∀ f n, F3 f (F2 f (F1 f n)) = Bv f n
  | 0, n => by simp [F3, MF, Bv]
  | f + 1, n => by
    obtain ⟨e, a, b, c, d, _⟩ := d3' (n % 256) (by omega)
    rw [F1_succ, F2_step _ _ _ a, F3_step _ _ _ c d (F_low f _), F_all f (n / 256), Bv]
    rw [e]
theorem popF_split (k : Nat) : ∀ j n, popF (k + j) n = popF j (n % 2 ^ j) + popF k (n / 2 ^ j)
  | 0, n => by simp [popF]
  | j + 1, n => by
    have e1 : n % 2 ^ (j + 1) % 2 = n % 2 := by rw [Nat.pow_succ', Nat.mod_mul_right_mod]
    have e2 : n % 2 ^ (j + 1) / 2 = n / 2 % 2 ^ j := by rw [Nat.pow_succ', Nat.mod_mul_right_div_self]
    have e3 : n / 2 ^ (j + 1) = n / 2 / 2 ^ j := by rw [Nat.pow_succ', Nat.div_div_eq_div_mul]
    show n % 2 + popF (k + j) (n / 2) = n % 2 ^ (j + 1) % 2 + popF j (n % 2 ^ (j + 1) / 2) + popF k (n / 2 ^ (j + 1))
    rw [e1, e2, e3, popF_split k j (n / 2), Nat.add_assoc]
theorem popF_add (n k : Nat) : popF (k + 8) n = popF 8 (n % 256) + popF k (n / 256) := popF_split k 8 n
theorem pop_bytes (n : Nat) : pop n = popF 8 (n % 256) + (popF 8 (n / 256 % 256) + (popF 8 (n / 256 / 256 % 256) + (popF 8 (n / 256 / 256 / 256 % 256) + (popF 8 (n / 256 / 256 / 256 / 256 % 256)
    + (popF 8 (n / 256 / 256 / 256 / 256 / 256 % 256) + (popF 8 (n / 256 / 256 / 256 / 256 / 256 / 256 % 256) + popF 8 (n / 256 / 256 / 256 / 256 / 256 / 256 / 256 % 256))))))) := by
  exact (popF_add n 56).trans (congrArg (popF 8 (n % 256) + ·) ((popF_add _ 48).trans (congrArg (popF 8 (n / 256 % 256) + ·) ((popF_add _ 40).trans (congrArg (popF 8 (n / 256 / 256 % 256) + ·) ((popF_add _ 32).trans
    (congrArg (popF 8 (n / 256 / 256 / 256 % 256) + ·) ((popF_add _ 24).trans (congrArg (popF 8 (n / 256 / 256 / 256 / 256 % 256) + ·) ((popF_add _ 16).trans (congrArg (popF 8 (n / 256 / 256 / 256 / 256 / 256 % 256) + ·)
    ((popF_add _ 8).trans (congrArg (popF 8 (n / 256 / 256 / 256 / 256 / 256 / 256 % 256) + ·) ((popF_add _ 0).trans (Nat.add_zero _)))))))))))))))
theorem popF8_le (n : Nat) : popF 8 (n % 256) ≤ 8 := (d3' (n % 256) (by omega)).2.2.2.2.2
theorem sum_a (d0 d1 d2 R3 : Nat) (h0 : d0 ≤ 8) (h1 : d1 ≤ 8) (h2 : d2 ≤ 8) (R2 R1 x : Nat) (e2 : R2 = d2 + 256 * R3) (e1 : R1 = d1 + 256 * R2) (e0 : x = d0 + 256 * R1) :
    x / 256 = R1 ∧ (x + R1) / 65536 = R2 + R3 := by omega
theorem sum_b (d0 d1 d2 d3 d4 d5 d6 R7 : Nat) (h0 : d0 ≤ 8) (h1 : d1 ≤ 8) (h2 : d2 ≤ 8) (h3 : d3 ≤ 8) (h4 : d4 ≤ 8) (h5 : d5 ≤ 8) (h6 : d6 ≤ 8) :
    (d0 + d1 + d2 + d3 + 256 * (d1 + d2 + d3 + d4) + 65536 * (d2 + d3 + d4 + d5) + 16777216 * (d3 + d4 + d5 + d6) + 4294967296 * R7) / 4294967296 = R7 := by omega
theorem sumHalves (d0 d1 d2 d3 d4 d5 d6 d7 x : Nat) (h0 : d0 ≤ 8) (h1 : d1 ≤ 8) (h2 : d2 ≤ 8) (h3 : d3 ≤ 8) (h4 : d4 ≤ 8) (h5 : d5 ≤ 8) (h6 : d6 ≤ 8) (h7 : d7 ≤ 8)
    (hx : x = d0 + 256 * (d1 + 256 * (d2 + 256 * (d3 + 256 * (d4 + 256 * (d5 + 256 * (d6 + 256 * d7))))))) :
    ∃ a b c, a = x + x / 256 ∧ b = a + a / 65536 ∧ c = b + b / 4294967296 ∧
    c % 128 = d0 + (d1 + (d2 + (d3 + (d4 + (d5 + (d6 + d7)))))) ∧ a < 1152921504606846976 ∧ b < 1152921504606846976 ∧ c < 1152921504606846976 := by
  obtain ⟨R7, e7⟩ : ∃ R, R = d7 := ⟨_, rfl⟩
  obtain ⟨R6, e6⟩ : ∃ R, R = d6 + 256 * R7 := ⟨_, rfl⟩
  obtain ⟨R5, e5⟩ : ∃ R, R = d5 + 256 * R6 := ⟨_, rfl⟩
  obtain ⟨R4, e4⟩ : ∃ R, R = d4 + 256 * R5 := ⟨_, rfl⟩
  obtain ⟨R3, e3⟩ : ∃ R, R = d3 + 256 * R4 := ⟨_, rfl⟩
  obtain ⟨R2, e2⟩ : ∃ R, R = d2 + 256 * R3 := ⟨_, rfl⟩
  obtain ⟨R1, e1⟩ : ∃ R, R = d1 + 256 * R2 := ⟨_, rfl⟩
  have e0 : x = d0 + 256 * R1 := by rw [hx, e1, e2, e3, e4, e5, e6, e7]
  clear hx
  have sa := sum_a d0 d1 d2 R3 h0 h1 h2 R2 R1 x e2 e1 e0
  have eb : x + R1 + (R2 + R3) = d0 + d1 + d2 + d3 + 256 * (d1 + d2 + d3 + d4) + 65536 * (d2 + d3 + d4 + d5) + 16777216 * (d3 + d4 + d5 + d6) + 4294967296 * (R4 + R5 + (R6 + R7)) := by omega
  have sb : (x + R1 + (R2 + R3)) / 4294967296 = R4 + R5 + (R6 + R7) := by
    rw [eb]; exact sum_b d0 d1 d2 d3 d4 d5 d6 _ h0 h1 h2 h3 h4 h5 h6
  refine ⟨x + R1, x + R1 + (R2 + R3), x + R1 + (R2 + R3) + (R4 + R5 + (R6 + R7)), by rw [sa.1], by rw [sa.2], by rw [sb], ?_, ?_, ?_, ?_⟩
  · rw [eb, e4, e5, e6, e7]; clear sa sb eb e0 e1 e2 e3 e4 e5 e6; omega
  all_goals (clear sa sb eb; omega)

/-! ### The library's count, as the walk writes it -/
theorem bits_and_i64_nat (a b : Nat) (ha : a < 9223372036854775808) (hb : b < 9223372036854775808) : bits .and .i64 (a : Int) (b : Int) = ((a &&& b : Nat) : Int) := by
  have hx : a &&& b < 2 ^ 63 := Nat.and_lt_two_pow _ (by omega)
  have h1 : (BitVec.ofInt 64 (a : Int)).toNat = a := by
    rw [BitVec.ofInt_natCast, BitVec.toNat_ofNat]; exact Nat.mod_eq_of_lt (by omega)
  have h2 : (BitVec.ofInt 64 (b : Int)).toNat = b := by
    rw [BitVec.ofInt_natCast, BitVec.toNat_ofNat]; exact Nat.mod_eq_of_lt (by omega)
  show IntKind.i64.wrap ((BitVec.ofInt 64 (a : Int) &&& BitVec.ofInt 64 (b : Int)).toNat : Int) = _
  rw [BitVec.toNat_and, h1, h2, IntWalk.i64_left]
  unfold wrap64; omega
def w1 (n : Int) : Int := IntKind.u64.wrap (bits .and .u64 (n / 2) 6148914691236517205 + bits .and .u64 n 6148914691236517205)
def w2 (n : Int) : Int := IntKind.u64.wrap (bits .and .u64 (n / 4) 3689348814741910323 + bits .and .u64 n 3689348814741910323)
def w3 (n : Int) : Int := bits .and .u64 (IntKind.u64.wrap (n / 16 + n)) 1085102592571150095
def w4 (n : Int) : Int := IntKind.u64.wrap (n + n / 256)
def w5 (n : Int) : Int := IntKind.u64.wrap (n + n / 65536)
def w6 (n : Int) : Int := IntKind.u64.wrap (n + n / 4294967296)
theorem M5_8 : M5 8 = 6148914691236517205 := by decide +kernel
theorem M3_8 : M3 8 = 3689348814741910323 := by decide +kernel
theorem MF_8 : MF 8 = 1085102592571150095 := by decide +kernel
theorem w1_eq (n : Nat) (hn : n < 18446744073709551616) : w1 n = ((F1 8 n : Nat) : Int) ∧ F1 8 n ≤ 12297829382473034410 := by
  have e : ((n : Int) / 2) = ((n / 2 : Nat) : Int) := by omega
  have h1 : n / 2 &&& 6148914691236517205 ≤ 6148914691236517205 := Nat.and_le_right
  have h2 : n &&& 6148914691236517205 ≤ 6148914691236517205 := Nat.and_le_right
  have k1 := bits_and_u64_nat (n / 2) 6148914691236517205 (by omega) (by omega)
  have k2 := bits_and_u64_nat n 6148914691236517205 (by omega) (by omega)
  unfold w1 F1
  rw [M5_8, e, IntKind.wrap_u64]
  have k1' : bits .and .u64 ((n / 2 : Nat) : Int) 6148914691236517205 = ((n / 2 &&& 6148914691236517205 : Nat) : Int) := k1
  have k2' : bits .and .u64 (n : Int) 6148914691236517205 = ((n &&& 6148914691236517205 : Nat) : Int) := k2
  rw [k1', k2']
  omega
theorem w2_eq (n : Nat) (hn : n < 18446744073709551616) : w2 n = ((F2 8 n : Nat) : Int) ∧ F2 8 n ≤ 7378697629483820646 := by
  have e : ((n : Int) / 4) = ((n / 4 : Nat) : Int) := by omega
  have h1 : n / 4 &&& 3689348814741910323 ≤ 3689348814741910323 := Nat.and_le_right
  have h2 : n &&& 3689348814741910323 ≤ 3689348814741910323 := Nat.and_le_right
  have k1' : bits .and .u64 ((n / 4 : Nat) : Int) 3689348814741910323 = ((n / 4 &&& 3689348814741910323 : Nat) : Int) := bits_and_u64_nat (n / 4) 3689348814741910323 (by omega) (by omega)
  have k2' : bits .and .u64 (n : Int) 3689348814741910323 = ((n &&& 3689348814741910323 : Nat) : Int) := bits_and_u64_nat n 3689348814741910323 (by omega) (by omega)
  unfold w2 F2
  rw [M3_8, e, IntKind.wrap_u64, k1', k2']
  omega
theorem w3_eq (n : Nat) (hn : n ≤ 7378697629483820646) : w3 n = ((F3 8 n : Nat) : Int) := by
  have e : IntKind.u64.wrap ((n : Int) / 16 + (n : Int)) = ((n / 16 + n : Nat) : Int) := by rw [IntKind.wrap_u64]; omega
  unfold w3 F3
  rw [MF_8, e]
  exact bits_and_u64_nat (n / 16 + n) 1085102592571150095 (by omega) (by omega)
theorem wr (n m : Nat) (h : n = m) (l : m < 1152921504606846976) : IntKind.u64.wrap (n : Int) = (m : Int) := by subst h; exact IntWalk.u64_in _ (by omega)
theorem w4_eq (x a : Nat) (h : a = x + x / 256) (l : a < 1152921504606846976) : w4 (x : Int) = (a : Int) := wr (x + x / 256) a h.symm l
theorem w5_eq (x a : Nat) (h : a = x + x / 65536) (l : a < 1152921504606846976) : w5 (x : Int) = (a : Int) := wr (x + x / 65536) a h.symm l
theorem w6_eq (x a : Nat) (h : a = x + x / 4294967296) (l : a < 1152921504606846976) : w6 (x : Int) = (a : Int) := wr (x + x / 4294967296) a h.symm l
theorem ones_eq (n : Nat) (hn : n < 18446744073709551616) : bits .and .i64 (wrap64 (w6 (w5 (w4 (w3 (w2 (w1 n))))))) 127 = ((pop n : Nat) : Int) := by
  obtain ⟨e1, l1⟩ := w1_eq n hn
  obtain ⟨e2, l2⟩ := w2_eq (F1 8 n) (by omega)
  rw [e1, e2, w3_eq _ l2, F_all, pop_bytes]
  have hb : Bv 8 n = popF 8 (n % 256) + 256 * (popF 8 (n / 256 % 256) + 256 * (popF 8 (n / 256 / 256 % 256) + 256 * (popF 8 (n / 256 / 256 / 256 % 256) + 256 * (popF 8 (n / 256 / 256 / 256 / 256 % 256)
    + 256 * (popF 8 (n / 256 / 256 / 256 / 256 / 256 % 256) + 256 * (popF 8 (n / 256 / 256 / 256 / 256 / 256 / 256 % 256) + 256 * popF 8 (n / 256 / 256 / 256 / 256 / 256 / 256 / 256 % 256))))))) := by
    simp only [Bv, Nat.mul_zero, Nat.add_zero]
  obtain ⟨a, b, c, ha, hb', hc, hs, la, lb, lc⟩ := sumHalves _ _ _ _ _ _ _ _ (Bv 8 n) (popF8_le n) (popF8_le _) (popF8_le _) (popF8_le _) (popF8_le _) (popF8_le _) (popF8_le _) (popF8_le _) hb
  rw [← hs]
  clear hs hb e1 e2 l1 l2 hn
  generalize Bv 8 n = x at *
  have f7 : wrap64 (c : Int) = (c : Int) := IntWalk.wrap64_in _ (by omega)
  rw [w4_eq x a ha la, w5_eq a b hb' lb, w6_eq b c hc lc, f7]
  have := bits_and_i64_nat c 127 (by omega) (by omega)
  rw [nat_mask7] at this
  exact this

/-! ### The lowest and the highest bit -/
theorem popF_zero : ∀ f, popF f 0 = 0
  | 0 => rfl
  | f + 1 => by simp [popF, popF_zero f]
theorem pop_low : ∀ f v, 0 < v → v < 2 ^ f → 2 ^ Lib.ctzFrom f v ≤ v ∧ popF f (v - 2 ^ Lib.ctzFrom f v) + 1 = popF f v ∧ Lib.ctzFrom f v < f
  | 0, v, h0, h => by simp at h; omega
  | f + 1, v, h0, h => by
    unfold Lib.ctzFrom
    split
    · rename_i h1
      simp only [popF, Nat.pow_zero]
      have e1 : (v - 1) % 2 = 0 := by omega
      have e2 : (v - 1) / 2 = v / 2 := by omega
      rw [e1, e2, h1]; omega
    · rename_i h1
      have hv : v / 2 < 2 ^ f := by rw [Nat.pow_succ] at h; omega
      obtain ⟨a, b, c⟩ := pop_low f (v / 2) (by omega) hv
      have e : 2 ^ (1 + Lib.ctzFrom f (v / 2)) = 2 * 2 ^ Lib.ctzFrom f (v / 2) := by rw [Nat.add_comm, Nat.pow_succ, Nat.mul_comm]
      rw [e]
      generalize 2 ^ Lib.ctzFrom f (v / 2) = P at *
      simp only [popF]
      have e1 : (v - 2 * P) % 2 = v % 2 := by omega
      have e2 : (v - 2 * P) / 2 = v / 2 - P := by omega
      rw [e1, e2]; omega
theorem bitLen_zero : Lib.bitLen 0 = 0 := by decide +kernel
theorem bitLen_top (v : Nat) (h0 : 0 < v) (h : v < 18446744073709551616) : 1 ≤ Lib.bitLen v ∧ Lib.bitLen v ≤ 64 ∧ v / 2 ^ (Lib.bitLen v - 1) = 1 := by
  have key : ∀ f v, 0 < v → v < 2 ^ f → 1 ≤ Lib.bitLenAux f v ∧ Lib.bitLenAux f v ≤ f ∧ v / 2 ^ (Lib.bitLenAux f v - 1) = 1 := by
    intro f
    induction f with
    | zero => intro v h0 h; simp at h; omega
    | succ f ih =>
      intro v h0 h
      simp only [Lib.bitLenAux]
      rw [if_neg (by omega)]
      by_cases h1 : v / 2 = 0
      · have e : Lib.bitLenAux f (v / 2) = 0 := by rw [h1]; cases f <;> simp [Lib.bitLenAux]
        rw [e]
        have : v = 1 := by omega
        subst this
        exact ⟨by omega, by omega, by simp⟩
      · obtain ⟨a, b, c⟩ := ih (v / 2) (by omega) (by rw [Nat.pow_succ] at h; omega)
        refine ⟨by omega, by omega, ?_⟩
        rw [Nat.div_div_eq_div_mul, ← Nat.pow_succ'] at c
        rw [show 1 + Lib.bitLenAux f (v / 2) - 1 = (Lib.bitLenAux f (v / 2) - 1).succ from by omega]
        exact c
  exact key 64 v h0 h
theorem ctz_le_len (v : Nat) (h0 : 0 < v) (h : v < 18446744073709551616) : Lib.ctzFrom 64 v ≤ Lib.bitLen v - 1 := by
  obtain ⟨a, _, _⟩ := pop_low 64 v h0 h
  obtain ⟨b, c, d⟩ := bitLen_top v h0 h
  apply Nat.le_of_not_lt
  intro hlt
  have := Nat.pow_le_pow_right (n := 2) (by decide) hlt
  have e : v < 2 ^ (Lib.bitLen v - 1 + 1) := by
    have := Nat.div_lt_iff_lt_mul (x := v) (y := 2) (pow_pos' (Lib.bitLen v - 1))
    rw [Nat.pow_succ, Nat.mul_comm]
    exact this.1 (by omega)
  omega
theorem pop_le (v : Nat) : ∀ f, popF f v ≤ f := by
  intro f
  induction f generalizing v with
  | zero => simp [popF]
  | succ f ih => simp only [popF]; have := ih (v / 2); omega
/-- No more bits are set than lie from the lowest one to the highest one. -/
theorem pop_between (v : Nat) (h0 : 0 < v) (h : v < 18446744073709551616) : pop v + Lib.ctzFrom 64 v ≤ Lib.bitLen v := by
  have key : ∀ f v, 0 < v → v < 2 ^ f → popF f v + Lib.ctzFrom f v ≤ Lib.bitLenAux f v := by
    intro f
    induction f with
    | zero => intro v h0 h; simp at h; omega
    | succ f ih =>
      intro v h0 h
      have e1 : Lib.bitLenAux (f + 1) v = 1 + Lib.bitLenAux f (v / 2) := by simp only [Lib.bitLenAux]; rw [if_neg (by omega)]
      have e2 : popF (f + 1) v = v % 2 + popF f (v / 2) := rfl
      by_cases h1 : v / 2 = 0
      · obtain rfl : v = 1 := by omega
        have e3 : Lib.ctzFrom (f + 1) 1 = 0 := by simp [Lib.ctzFrom]
        have e4 : popF f (1 / 2) = 0 := popF_zero f
        rw [e1, e2, e3, e4]; omega
      · have i := ih (v / 2) (by omega) (by rw [Nat.pow_succ] at h; omega)
        by_cases h2 : v % 2 = 1
        · have e3 : Lib.ctzFrom (f + 1) v = 0 := by simp [Lib.ctzFrom, h2]
          rw [e1, e2, e3]; omega
        · have e3 : Lib.ctzFrom (f + 1) v = 1 + Lib.ctzFrom f (v / 2) := by simp [Lib.ctzFrom, h2]
          rw [e1, e2, e3]; omega
  exact key 64 v h0 h
end Go.Proofs.YtfjjfickbhkpaaaDoor

