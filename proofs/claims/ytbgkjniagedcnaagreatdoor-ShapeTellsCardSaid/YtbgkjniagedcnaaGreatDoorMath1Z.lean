/-
  Plain numbers for layer 1: what the calls of package ints answer. No program.
  Numbers as few bytes: seven bits a byte, the lowest first; what bytes tell; zigzag. No program.
  What a reader of fields answers, as functions on lists of bytes. No program.
-/
import Derived.Laws.Bits64b
import Derived.Laws.BitsAllLaws
import Derived.Lib.TrailingZeros
import Derived.Lib.BitFns
import Derived.RowKit
import Derived.IntWalk
import Derived.Test.YtbgkjniagedcnaaGreatDoorMemZ
namespace Go.Proofs.YtbgkjniagedcnaaGreatDoor
open Go.RowKit

/-- How many bits are set, of a number below 2^f. -/
def popF : Nat → Nat → Nat
  | 0, _ => 0
  | f + 1, v => v % 2 + popF f (v / 2)
def pop (v : Nat) : Nat := popF 64 v
/-- The value of a number of b bits, with a sign. -/
def sgn (v b : Nat) : Int := if v < 2 ^ (b - 1) then (v : Int) else (v : Int) - 2 ^ b
/-- The least multiple of 2^k that is not below n. -/
def upTo (n k : Nat) : Nat := (n + 2 ^ k - 1) / 2 ^ k * 2 ^ k

theorem pow_pos' (k : Nat) : 0 < 2 ^ k := Nat.pow_pos (by decide)
theorem pow_split (b : Nat) (h : b ≤ 64) : 2 ^ b * 2 ^ (64 - b) = 18446744073709551616 := by
  rw [← Nat.pow_add, show b + (64 - b) = 64 from by omega]
theorem pow_le63 (k : Nat) (h : k ≤ 63) : 2 ^ k ≤ 9223372036854775808 := by
  have := Nat.pow_le_pow_right (n := 2) (by decide) h; omega
theorem pow_le64 (k : Nat) (h : k ≤ 64) : 2 ^ k ≤ 18446744073709551616 := by
  have := Nat.pow_le_pow_right (n := 2) (by decide) h; omega

/-- v<<(64-b)>>(64-b), as the walk writes it. -/
theorem sgn_shift (v b : Nat) (h1 : 1 ≤ b) (h2 : b ≤ 64) (hv : v < 2 ^ b) :
    wrap64 (IntKind.u64.wrap ((v : Int) * 2 ^ (64 - b))) / 2 ^ (64 - b) = sgn v b := by
  have hp := pow_split b h2
  have hq := pow_pos' (64 - b)
  have hsub : 2 ^ b = 2 * 2 ^ (b - 1) := by
    rw [← Nat.pow_succ', show (b - 1).succ = b from by omega]
  generalize hP : 2 ^ (64 - b) = P at *
  generalize hR : 2 ^ (b - 1) = R at *
  generalize hB : 2 ^ b = B at *
  have hcast : (2 : Int) ^ (64 - b) = (P : Int) := by rw [← hP]; simp
  have hcastB : (2 : Int) ^ b = (B : Int) := by rw [← hB]; simp
  have hlt : v * P < 18446744073709551616 := by rw [← hp]; exact Nat.mul_lt_mul_of_pos_right hv hq
  have hRP : R * P = 9223372036854775808 := by
    have : 2 * (R * P) = 18446744073709551616 := by rw [← Nat.mul_assoc, ← hsub]; exact hp
    omega
  rw [hcast, IntKind.wrap_u64]
  have e1 : ((v : Int) * (P : Int)) % 18446744073709551616 = ((v * P : Nat) : Int) := by
    rw [← Int.natCast_mul]; omega
  rw [e1]
  unfold wrap64 sgn
  rw [hcastB, hR]
  by_cases hc : v < R
  · rw [if_pos hc]
    have : v * P < R * P := Nat.mul_lt_mul_of_pos_right hc hq
    have e2 : (((v * P : Nat) : Int) + 9223372036854775808) % 18446744073709551616 - 9223372036854775808 = ((v * P : Nat) : Int) := by omega
    rw [e2, ← Int.natCast_ediv, Nat.mul_div_cancel _ hq]
  · rw [if_neg hc]
    have : R * P ≤ v * P := Nat.mul_le_mul_right _ (by omega)
    have e2 : (((v * P : Nat) : Int) + 9223372036854775808) % 18446744073709551616 - 9223372036854775808 = ((v * P : Nat) : Int) - 18446744073709551616 := by omega
    rw [e2]
    have e3 : ((v * P : Nat) : Int) - 18446744073709551616 = ((v : Int) - (B : Int)) * (P : Int) := by
      rw [Int.sub_mul, ← Int.natCast_mul, ← Int.natCast_mul, hp]; rfl
    rw [e3, Int.mul_ediv_cancel _ (by omega)]

/-! ### 2^k - 1 beneath, and Up -/
theorem wrap_pow (k : Nat) (h : k < 64) : IntKind.u64.wrap ((2 : Int) ^ k) = ((2 ^ k : Nat) : Int) := by
  have := pow_le63 k (by omega)
  have e : (2 : Int) ^ k = ((2 ^ k : Nat) : Int) := by simp
  rw [e, IntKind.wrap_u64]
  generalize 2 ^ k = P at *
  omega
theorem wrap_ones (k : Nat) (h : k < 64) : IntKind.u64.wrap (IntKind.u64.wrap ((2 : Int) ^ k) - 1) = ((2 ^ k - 1 : Nat) : Int) := by
  have := pow_le63 k (by omega); have := pow_pos' k
  rw [wrap_pow k h, IntKind.wrap_u64]
  generalize 2 ^ k = P at *
  omega
theorem and_ones (n k : Nat) (hn : n < 18446744073709551616) (h : k < 64) :
    bits .and .u64 (n : Int) (IntKind.u64.wrap (IntKind.u64.wrap ((2 : Int) ^ k) - 1)) = ((n % 2 ^ k : Nat) : Int) := by
  have := pow_le63 k (by omega)
  rw [wrap_ones k h, bits_and_u64_nat n _ hn (by omega), Nat.and_two_pow_sub_one_eq_mod]
theorem or_ones (n k : Nat) (hn : n < 18446744073709551616) (h : k < 64) :
    bits .or .u64 (n : Int) (IntKind.u64.wrap (IntKind.u64.wrap ((2 : Int) ^ k) - 1)) = ((n / 2 ^ k * 2 ^ k + (2 ^ k - 1) : Nat) : Int) := by
  have := pow_le63 k (by omega); have hp := pow_pos' k
  rw [wrap_ones k h, bits_or_u64_nat n _ hn (by omega)]
  congr 1
  apply Nat.eq_of_testBit_eq
  intro i
  have e : n / 2 ^ k * 2 ^ k + (2 ^ k - 1) = 2 ^ k * (n / 2 ^ k) + (2 ^ k - 1) := by rw [Nat.mul_comm]
  rw [e, Nat.testBit_or, Nat.testBit_two_pow_sub_one, Nat.testBit_two_pow_mul_add _ (by omega)]
  by_cases hi : i < k
  · simp [hi, Nat.testBit_two_pow_sub_one]
  · simp [hi, Nat.testBit_div_two_pow, Nat.sub_add_cancel (Nat.le_of_not_lt hi)]
theorem or_next (n k : Nat) (hn : n < 18446744073709551616) (h : k < 64) :
    IntKind.u64.wrap (bits .or .u64 (n : Int) (IntKind.u64.wrap (IntKind.u64.wrap ((2 : Int) ^ k) - 1)) + 1) = (((n / 2 ^ k + 1) * 2 ^ k % 18446744073709551616 : Nat) : Int) := by
  have hp := pow_pos' k
  rw [or_ones n k hn h, IntKind.wrap_u64, Nat.add_mul]
  generalize n / 2 ^ k * 2 ^ k = a
  omega
/-- The next multiple is at most 2^64. -/
theorem next_le (n k : Nat) (hn : n < 18446744073709551616) (h : k < 64) : (n / 2 ^ k + 1) * 2 ^ k ≤ 18446744073709551616 := by
  have hs := pow_split k (by omega)
  have : n / 2 ^ k < 2 ^ (64 - k) := by
    apply Nat.div_lt_of_lt_mul; rw [hs]; exact hn
  calc (n / 2 ^ k + 1) * 2 ^ k ≤ 2 ^ (64 - k) * 2 ^ k := Nat.mul_le_mul_right _ this
    _ = 18446744073709551616 := by rw [Nat.mul_comm]; exact hs

/-! ### How many bits: the library's sum of halves -/
def M5 : Nat → Nat | 0 => 0 | f + 1 => 85 + 256 * M5 f
def M3 : Nat → Nat | 0 => 0 | f + 1 => 51 + 256 * M3 f
def MF : Nat → Nat | 0 => 0 | f + 1 => 15 + 256 * MF f
def F1 (f n : Nat) : Nat := (n / 2 &&& M5 f) + (n &&& M5 f)
def F2 (f x : Nat) : Nat := (x / 4 &&& M3 f) + (x &&& M3 f)
def F3 (f x : Nat) : Nat := (x / 16 + x) &&& MF f
def g1 (b : Nat) : Nat := (b / 2 &&& 85) + (b &&& 85)
def g2 (b : Nat) : Nat := (b / 4 &&& 51) + (b &&& 51)
def g3 (b : Nat) : Nat := (b / 16 + b) &&& 15
def Bv : Nat → Nat → Nat | 0, _ => 0 | f + 1, n => popF 8 (n % 256) + 256 * Bv f (n / 256)

theorem and_split (a c x m : Nat) (ha : a < 256) (hc : c < 256) : (a + 256 * x) &&& (c + 256 * m) = (a &&& c) + 256 * (x &&& m) := by
  have h1 : ((a + 256 * x) &&& (c + 256 * m)) % 2 ^ 8 = a &&& c := by
    rw [Nat.and_mod_two_pow]; congr 1 <;> omega
  have h2 : ((a + 256 * x) &&& (c + 256 * m)) / 2 ^ 8 = x &&& m := by
    rw [Nat.and_div_two_pow]; congr 1 <;> omega
  have h3 : a &&& c < 2 ^ 8 := Nat.and_lt_two_pow _ (by omega)
  omega
theorem d1 : ∀ b : Fin 256, ∀ c : Fin 2, (b.val / 2 + 128 * c.val) &&& 85 = b.val / 2 &&& 85 := by decide +kernel
theorem d2 : ∀ b : Fin 256, ∀ c : Fin 4, (b.val / 4 + 64 * c.val) &&& 51 = b.val / 4 &&& 51 := by decide +kernel
theorem d3 : ∀ b : Fin 256, g3 (g2 (g1 b.val)) = popF 8 b.val ∧ g1 b.val < 256 ∧ g2 (g1 b.val) < 256 ∧ g2 (g1 b.val) % 16 ≤ 4 ∧ g2 (g1 b.val) / 16 ≤ 4 ∧ popF 8 b.val ≤ 8 := by decide +kernel
theorem d3' (b : Nat) (h : b < 256) : g3 (g2 (g1 b)) = popF 8 b ∧ g1 b < 256 ∧ g2 (g1 b) < 256 ∧ g2 (g1 b) % 16 ≤ 4 ∧ g2 (g1 b) / 16 ≤ 4 ∧ popF 8 b ≤ 8 := d3 ⟨b, h⟩
theorem F1_succ (f n : Nat) : F1 (f + 1) n = g1 (n % 256) + 256 * F1 f (n / 256) := by
  have e1 : n / 2 = (n % 256 / 2 + 128 * (n / 256 % 2)) + 256 * (n / 256 / 2) := by omega
  have e2 : n = n % 256 + 256 * (n / 256) := by omega
  have k1 : (n / 2) &&& M5 (f + 1) = (n % 256 / 2 &&& 85) + 256 * (n / 256 / 2 &&& M5 f) := by
    rw [e1, M5, and_split _ _ _ _ (by omega) (by omega), d1 ⟨n % 256, by omega⟩ ⟨n / 256 % 2, by omega⟩]
  have k2 : n &&& M5 (f + 1) = (n % 256 &&& 85) + 256 * (n / 256 &&& M5 f) := by
    conv => lhs; rw [e2]
    rw [M5, and_split _ _ _ _ (by omega) (by omega)]
  unfold F1 g1
  rw [k1, k2]; omega
theorem F2_step (f c x : Nat) (hc : c < 256) : F2 (f + 1) (c + 256 * x) = g2 c + 256 * F2 f x := by
  have e1 : (c + 256 * x) / 4 = (c / 4 + 64 * (x % 4)) + 256 * (x / 4) := by omega
  unfold F2 g2
  rw [e1, M3, and_split _ _ _ _ (by omega) (by omega), and_split _ _ _ _ (by omega) (by omega), d2 ⟨c, hc⟩ ⟨x % 4, by omega⟩]
  show (c / 4 &&& 51) + _ + _ = _
  omega
theorem F3_step (f c x : Nat) (h1 : c % 16 ≤ 4) (h2 : c / 16 ≤ 4) (h3 : x % 16 ≤ 4) : F3 (f + 1) (c + 256 * x) = g3 c + 256 * F3 f x := by
  have e1 : (c + 256 * x) / 16 + (c + 256 * x) = (c / 16 + 16 * (x % 16) + c) + 256 * (x / 16 + x) := by omega
  unfold F3 g3
  rw [e1, MF, and_split _ _ _ _ (by omega) (by omega)]
  have e2 : c / 16 + 16 * (x % 16) + c &&& 15 = (c / 16 + c) &&& 15 := by
    rw [nat_mask4, nat_mask4]; omega
  rw [e2]
theorem F_low (f n : Nat) : F2 f (F1 f n) % 16 ≤ 4 := by
  cases f with
  | zero => simp [F2, M3]
  | succ f =>
    obtain ⟨_, a, b, c, _⟩ := d3' (n % 256) (by omega)
    rw [F1_succ, F2_step _ _ _ a]
    omega
theorem F_all : ∀ f n, F3 f (F2 f (F1 f n)) = Bv f n
  | 0, n => by simp [F3, MF, Bv]
  | f + 1, n => by
    obtain ⟨e, a, b, c, d, _⟩ := d3' (n % 256) (by omega)
    rw [F1_succ, F2_step _ _ _ a, F3_step _ _ _ c d (F_low f _), F_all f (n / 256), Bv]
    rw [e]
theorem popF_split (k : Nat) : ∀ j n, popF (k + j) n = popF j (n % 2 ^ j) + popF k (n / 2 ^ j)
  | 0, n => by simp [popF]
  | j + 1, n => by
    have e1 : n % 2 ^ (j + 1) % 2 = n % 2 := by rw [Nat.pow_succ', Nat.mod_mul_right_mod]
    have e2 : n % 2 ^ (j + 1) / 2 = n / 2 % 2 ^ j := by rw [Nat.pow_succ', Nat.mod_mul_right_div_self]
    have e3 : n / 2 ^ (j + 1) = n / 2 / 2 ^ j := by rw [Nat.pow_succ', Nat.div_div_eq_div_mul]
    show n % 2 + popF (k + j) (n / 2) = n % 2 ^ (j + 1) % 2 + popF j (n % 2 ^ (j + 1) / 2) + popF k (n / 2 ^ (j + 1))
    rw [e1, e2, e3, popF_split k j (n / 2), Nat.add_assoc]
theorem popF_add (n k : Nat) : popF (k + 8) n = popF 8 (n % 256) + popF k (n / 256) := popF_split k 8 n
theorem pop_bytes (n : Nat) : pop n = popF 8 (n % 256) + (popF 8 (n / 256 % 256) + (popF 8 (n / 256 / 256 % 256) + (popF 8 (n / 256 / 256 / 256 % 256) + (popF 8 (n / 256 / 256 / 256 / 256 % 256)
    + (popF 8 (n / 256 / 256 / 256 / 256 / 256 % 256) + (popF 8 (n / 256 / 256 / 256 / 256 / 256 / 256 % 256) + popF 8 (n / 256 / 256 / 256 / 256 / 256 / 256 / 256 % 256))))))) := by
  exact (popF_add n 56).trans (congrArg (popF 8 (n % 256) + ·) ((popF_add _ 48).trans (congrArg (popF 8 (n / 256 % 256) + ·) ((popF_add _ 40).trans (congrArg (popF 8 (n / 256 / 256 % 256) + ·) ((popF_add _ 32).trans
    (congrArg (popF 8 (n / 256 / 256 / 256 % 256) + ·) ((popF_add _ 24).trans (congrArg (popF 8 (n / 256 / 256 / 256 / 256 % 256) + ·) ((popF_add _ 16).trans (congrArg (popF 8 (n / 256 / 256 / 256 / 256 / 256 % 256) + ·)
    ((popF_add _ 8).trans (congrArg (popF 8 (n / 256 / 256 / 256 / 256 / 256 / 256 % 256) + ·) ((popF_add _ 0).trans (Nat.add_zero _)))))))))))))))
theorem popF8_le (n : Nat) : popF 8 (n % 256) ≤ 8 := (d3' (n % 256) (by omega)).2.2.2.2.2
theorem sum_a (d0 d1 d2 R3 : Nat) (h0 : d0 ≤ 8) (h1 : d1 ≤ 8) (h2 : d2 ≤ 8) (R2 R1 x : Nat) (e2 : R2 = d2 + 256 * R3) (e1 : R1 = d1 + 256 * R2) (e0 : x = d0 + 256 * R1) :
    x / 256 = R1 ∧ (x + R1) / 65536 = R2 + R3 := by omega
theorem sum_b (d0 d1 d2 d3 d4 d5 d6 R7 : Nat) (h0 : d0 ≤ 8) (h1 : d1 ≤ 8) (h2 : d2 ≤ 8) (h3 : d3 ≤ 8) (h4 : d4 ≤ 8) (h5 : d5 ≤ 8) (h6 : d6 ≤ 8) :
    (d0 + d1 + d2 + d3 + 256 * (d1 + d2 + d3 + d4) + 65536 * (d2 + d3 + d4 + d5) + 16777216 * (d3 + d4 + d5 + d6) + 4294967296 * R7) / 4294967296 = R7 := by omega
theorem sumHalves (d0 d1 d2 d3 d4 d5 d6 d7 x : Nat) (h0 : d0 ≤ 8) (h1 : d1 ≤ 8) (h2 : d2 ≤ 8) (h3 : d3 ≤ 8) (h4 : d4 ≤ 8) (h5 : d5 ≤ 8) (h6 : d6 ≤ 8) (h7 : d7 ≤ 8)
    (hx : x = d0 + 256 * (d1 + 256 * (d2 + 256 * (d3 + 256 * (d4 + 256 * (d5 + 256 * (d6 + 256 * d7))))))) :
    ∃ a b c, a = x + x / 256 ∧ b = a + a / 65536 ∧ c = b + b / 4294967296 ∧
    c % 128 = d0 + (d1 + (d2 + (d3 + (d4 + (d5 + (d6 + d7)))))) ∧ a < 1152921504606846976 ∧ b < 1152921504606846976 ∧ c < 1152921504606846976 := by
  obtain ⟨R7, e7⟩ : ∃ R, R = d7 := ⟨_, rfl⟩
  obtain ⟨R6, e6⟩ : ∃ R, R = d6 + 256 * R7 := ⟨_, rfl⟩
  obtain ⟨R5, e5⟩ : ∃ R, R = d5 + 256 * R6 := ⟨_, rfl⟩
  obtain ⟨R4, e4⟩ : ∃ R, R = d4 + 256 * R5 := ⟨_, rfl⟩
  obtain ⟨R3, e3⟩ : ∃ R, R = d3 + 256 * R4 := ⟨_, rfl⟩
  obtain ⟨R2, e2⟩ : ∃ R, R = d2 + 256 * R3 := ⟨_, rfl⟩
  obtain ⟨R1, e1⟩ : ∃ R, R = d1 + 256 * R2 := ⟨_, rfl⟩
  have e0 : x = d0 + 256 * R1 := by rw [hx, e1, e2, e3, e4, e5, e6, e7]
  clear hx
  have sa := sum_a d0 d1 d2 R3 h0 h1 h2 R2 R1 x e2 e1 e0
  have eb : x + R1 + (R2 + R3) = d0 + d1 + d2 + d3 + 256 * (d1 + d2 + d3 + d4) + 65536 * (d2 + d3 + d4 + d5) + 16777216 * (d3 + d4 + d5 + d6) + 4294967296 * (R4 + R5 + (R6 + R7)) := by omega
  have sb : (x + R1 + (R2 + R3)) / 4294967296 = R4 + R5 + (R6 + R7) := by
    rw [eb]; exact sum_b d0 d1 d2 d3 d4 d5 d6 _ h0 h1 h2 h3 h4 h5 h6
  refine ⟨x + R1, x + R1 + (R2 + R3), x + R1 + (R2 + R3) + (R4 + R5 + (R6 + R7)), by rw [sa.1], by rw [sa.2], by rw [sb], ?_, ?_, ?_, ?_⟩
  · rw [eb, e4, e5, e6, e7]; clear sa sb eb e0 e1 e2 e3 e4 e5 e6; omega
  all_goals (clear sa sb eb; omega)

/-! ### The library's count, as the walk writes it -/
theorem bits_and_i64_nat (a b : Nat) (ha : a < 9223372036854775808) (hb : b < 9223372036854775808) : bits .and .i64 (a : Int) (b : Int) = ((a &&& b : Nat) : Int) := by
  have hx : a &&& b < 2 ^ 63 := Nat.and_lt_two_pow _ (by omega)
  have h1 : (BitVec.ofInt 64 (a : Int)).toNat = a := by
    rw [BitVec.ofInt_natCast, BitVec.toNat_ofNat]; exact Nat.mod_eq_of_lt (by omega)
  have h2 : (BitVec.ofInt 64 (b : Int)).toNat = b := by
    rw [BitVec.ofInt_natCast, BitVec.toNat_ofNat]; exact Nat.mod_eq_of_lt (by omega)
  show IntKind.i64.wrap ((BitVec.ofInt 64 (a : Int) &&& BitVec.ofInt 64 (b : Int)).toNat : Int) = _
  rw [BitVec.toNat_and, h1, h2, IntWalk.i64_left]
  unfold wrap64; omega
def w1 (n : Int) : Int := IntKind.u64.wrap (bits .and .u64 (n / 2) 6148914691236517205 + bits .and .u64 n 6148914691236517205)
def w2 (n : Int) : Int := IntKind.u64.wrap (bits .and .u64 (n / 4) 3689348814741910323 + bits .and .u64 n 3689348814741910323)
def w3 (n : Int) : Int := bits .and .u64 (IntKind.u64.wrap (n / 16 + n)) 1085102592571150095
def w4 (n : Int) : Int := IntKind.u64.wrap (n + n / 256)
def w5 (n : Int) : Int := IntKind.u64.wrap (n + n / 65536)
def w6 (n : Int) : Int := IntKind.u64.wrap (n + n / 4294967296)
theorem M5_8 : M5 8 = 6148914691236517205 := by decide +kernel
theorem M3_8 : M3 8 = 3689348814741910323 := by decide +kernel
theorem MF_8 : MF 8 = 1085102592571150095 := by decide +kernel
theorem w1_eq (n : Nat) (hn : n < 18446744073709551616) : w1 n = ((F1 8 n : Nat) : Int) ∧ F1 8 n ≤ 12297829382473034410 := by
  have e : ((n : Int) / 2) = ((n / 2 : Nat) : Int) := by omega
  have h1 : n / 2 &&& 6148914691236517205 ≤ 6148914691236517205 := Nat.and_le_right
  have h2 : n &&& 6148914691236517205 ≤ 6148914691236517205 := Nat.and_le_right
  have k1 := bits_and_u64_nat (n / 2) 6148914691236517205 (by omega) (by omega)
  have k2 := bits_and_u64_nat n 6148914691236517205 (by omega) (by omega)
  unfold w1 F1
  rw [M5_8, e, IntKind.wrap_u64]
  have k1' : bits .and .u64 ((n / 2 : Nat) : Int) 6148914691236517205 = ((n / 2 &&& 6148914691236517205 : Nat) : Int) := k1
  have k2' : bits .and .u64 (n : Int) 6148914691236517205 = ((n &&& 6148914691236517205 : Nat) : Int) := k2
  rw [k1', k2']
  omega
theorem w2_eq (n : Nat) (hn : n < 18446744073709551616) : w2 n = ((F2 8 n : Nat) : Int) ∧ F2 8 n ≤ 7378697629483820646 := by
  have e : ((n : Int) / 4) = ((n / 4 : Nat) : Int) := by omega
  have h1 : n / 4 &&& 3689348814741910323 ≤ 3689348814741910323 := Nat.and_le_right
  have h2 : n &&& 3689348814741910323 ≤ 3689348814741910323 := Nat.and_le_right
  have k1' : bits .and .u64 ((n / 4 : Nat) : Int) 3689348814741910323 = ((n / 4 &&& 3689348814741910323 : Nat) : Int) := bits_and_u64_nat (n / 4) 3689348814741910323 (by omega) (by omega)
  have k2' : bits .and .u64 (n : Int) 3689348814741910323 = ((n &&& 3689348814741910323 : Nat) : Int) := bits_and_u64_nat n 3689348814741910323 (by omega) (by omega)
  unfold w2 F2
  rw [M3_8, e, IntKind.wrap_u64, k1', k2']
  omega
theorem w3_eq (n : Nat) (hn : n ≤ 7378697629483820646) : w3 n = ((F3 8 n : Nat) : Int) := by
  have e : IntKind.u64.wrap ((n : Int) / 16 + (n : Int)) = ((n / 16 + n : Nat) : Int) := by rw [IntKind.wrap_u64]; omega
  unfold w3 F3
  rw [MF_8, e]
  exact bits_and_u64_nat (n / 16 + n) 1085102592571150095 (by omega) (by omega)
theorem wr (n m : Nat) (h : n = m) (l : m < 1152921504606846976) : IntKind.u64.wrap (n : Int) = (m : Int) := by subst h; exact IntWalk.u64_in _ (by omega)
theorem w4_eq (x a : Nat) (h : a = x + x / 256) (l : a < 1152921504606846976) : w4 (x : Int) = (a : Int) := wr (x + x / 256) a h.symm l
theorem w5_eq (x a : Nat) (h : a = x + x / 65536) (l : a < 1152921504606846976) : w5 (x : Int) = (a : Int) := wr (x + x / 65536) a h.symm l
theorem w6_eq (x a : Nat) (h : a = x + x / 4294967296) (l : a < 1152921504606846976) : w6 (x : Int) = (a : Int) := wr (x + x / 4294967296) a h.symm l
theorem ones_eq (n : Nat) (hn : n < 18446744073709551616) : bits .and .i64 (wrap64 (w6 (w5 (w4 (w3 (w2 (w1 n))))))) 127 = ((pop n : Nat) : Int) := by
  obtain ⟨e1, l1⟩ := w1_eq n hn
  obtain ⟨e2, l2⟩ := w2_eq (F1 8 n) (by omega)
  rw [e1, e2, w3_eq _ l2, F_all, pop_bytes]
  have hb : Bv 8 n = popF 8 (n % 256) + 256 * (popF 8 (n / 256 % 256) + 256 * (popF 8 (n / 256 / 256 % 256) + 256 * (popF 8 (n / 256 / 256 / 256 % 256) + 256 * (popF 8 (n / 256 / 256 / 256 / 256 % 256)
    + 256 * (popF 8 (n / 256 / 256 / 256 / 256 / 256 % 256) + 256 * (popF 8 (n / 256 / 256 / 256 / 256 / 256 / 256 % 256) + 256 * popF 8 (n / 256 / 256 / 256 / 256 / 256 / 256 / 256 % 256))))))) := by
    simp only [Bv, Nat.mul_zero, Nat.add_zero]
  obtain ⟨a, b, c, ha, hb', hc, hs, la, lb, lc⟩ := sumHalves _ _ _ _ _ _ _ _ (Bv 8 n) (popF8_le n) (popF8_le _) (popF8_le _) (popF8_le _) (popF8_le _) (popF8_le _) (popF8_le _) (popF8_le _) hb
  rw [← hs]
  clear hs hb e1 e2 l1 l2 hn
  generalize Bv 8 n = x at *
  have f7 : wrap64 (c : Int) = (c : Int) := IntWalk.wrap64_in _ (by omega)
  rw [w4_eq x a ha la, w5_eq a b hb' lb, w6_eq b c hc lc, f7]
  have := bits_and_i64_nat c 127 (by omega) (by omega)
  rw [nat_mask7] at this
  exact this

/-! ### The lowest and the highest bit -/
theorem popF_zero : ∀ f, popF f 0 = 0
  | 0 => rfl
  | f + 1 => by simp [popF, popF_zero f]
theorem pop_low : ∀ f v, 0 < v → v < 2 ^ f → 2 ^ Lib.ctzFrom f v ≤ v ∧ popF f (v - 2 ^ Lib.ctzFrom f v) + 1 = popF f v ∧ Lib.ctzFrom f v < f
  | 0, v, h0, h => by simp at h; omega
  | f + 1, v, h0, h => by
    unfold Lib.ctzFrom
    split
    · rename_i h1
      simp only [popF, Nat.pow_zero]
      have e1 : (v - 1) % 2 = 0 := by omega
      have e2 : (v - 1) / 2 = v / 2 := by omega
      rw [e1, e2, h1]; omega
    · rename_i h1
      have hv : v / 2 < 2 ^ f := by rw [Nat.pow_succ] at h; omega
      obtain ⟨a, b, c⟩ := pop_low f (v / 2) (by omega) hv
      have e : 2 ^ (1 + Lib.ctzFrom f (v / 2)) = 2 * 2 ^ Lib.ctzFrom f (v / 2) := by rw [Nat.add_comm, Nat.pow_succ, Nat.mul_comm]
      rw [e]
      generalize 2 ^ Lib.ctzFrom f (v / 2) = P at *
      simp only [popF]
      have e1 : (v - 2 * P) % 2 = v % 2 := by omega
      have e2 : (v - 2 * P) / 2 = v / 2 - P := by omega
      rw [e1, e2]; omega
theorem bitLen_zero : Lib.bitLen 0 = 0 := by decide +kernel
theorem bitLen_top (v : Nat) (h0 : 0 < v) (h : v < 18446744073709551616) : 1 ≤ Lib.bitLen v ∧ Lib.bitLen v ≤ 64 ∧ v / 2 ^ (Lib.bitLen v - 1) = 1 := by
  have key : ∀ f v, 0 < v → v < 2 ^ f → 1 ≤ Lib.bitLenAux f v ∧ Lib.bitLenAux f v ≤ f ∧ v / 2 ^ (Lib.bitLenAux f v - 1) = 1 := by
    intro f
    induction f with
    | zero => intro v h0 h; simp at h; omega
    | succ f ih =>
      intro v h0 h
      simp only [Lib.bitLenAux]
      rw [if_neg (by omega)]
      by_cases h1 : v / 2 = 0
      · have e : Lib.bitLenAux f (v / 2) = 0 := by rw [h1]; cases f <;> simp [Lib.bitLenAux]
        rw [e]
        have : v = 1 := by omega
        subst this
        exact ⟨by omega, by omega, by simp⟩
      · obtain ⟨a, b, c⟩ := ih (v / 2) (by omega) (by rw [Nat.pow_succ] at h; omega)
        refine ⟨by omega, by omega, ?_⟩
        rw [Nat.div_div_eq_div_mul, ← Nat.pow_succ'] at c
        rw [show 1 + Lib.bitLenAux f (v / 2) - 1 = (Lib.bitLenAux f (v / 2) - 1).succ from by omega]
        exact c
  exact key 64 v h0 h
theorem ctz_le_len (v : Nat) (h0 : 0 < v) (h : v < 18446744073709551616) : Lib.ctzFrom 64 v ≤ Lib.bitLen v - 1 := by
  obtain ⟨a, _, _⟩ := pop_low 64 v h0 h
  obtain ⟨b, c, d⟩ := bitLen_top v h0 h
  apply Nat.le_of_not_lt
  intro hlt
  have := Nat.pow_le_pow_right (n := 2) (by decide) hlt
  have e : v < 2 ^ (Lib.bitLen v - 1 + 1) := by
    have := Nat.div_lt_iff_lt_mul (x := v) (y := 2) (pow_pos' (Lib.bitLen v - 1))
    rw [Nat.pow_succ, Nat.mul_comm]
    exact this.1 (by omega)
  omega
theorem pop_le (v : Nat) : ∀ f, popF f v ≤ f := by
  intro f
  induction f generalizing v with
  | zero => simp [popF]
  | succ f ih => simp only [popF]; have := ih (v / 2); omega
/-- No more bits are set than lie from the lowest one to the highest one. -/
theorem pop_between (v : Nat) (h0 : 0 < v) (h : v < 18446744073709551616) : pop v + Lib.ctzFrom 64 v ≤ Lib.bitLen v := by
  have key : ∀ f v, 0 < v → v < 2 ^ f → popF f v + Lib.ctzFrom f v ≤ Lib.bitLenAux f v := by
    intro f
    induction f with
    | zero => intro v h0 h; simp at h; omega
    | succ f ih =>
      intro v h0 h
      have e1 : Lib.bitLenAux (f + 1) v = 1 + Lib.bitLenAux f (v / 2) := by simp only [Lib.bitLenAux]; rw [if_neg (by omega)]
      have e2 : popF (f + 1) v = v % 2 + popF f (v / 2) := rfl
      by_cases h1 : v / 2 = 0
      · obtain rfl : v = 1 := by omega
        have e3 : Lib.ctzFrom (f + 1) 1 = 0 := by simp [Lib.ctzFrom]
        have e4 : popF f (1 / 2) = 0 := popF_zero f
        rw [e1, e2, e3, e4]; omega
      · have i := ih (v / 2) (by omega) (by rw [Nat.pow_succ] at h; omega)
        by_cases h2 : v % 2 = 1
        · have e3 : Lib.ctzFrom (f + 1) v = 0 := by simp [Lib.ctzFrom, h2]
          rw [e1, e2, e3]; omega
        · have e3 : Lib.ctzFrom (f + 1) v = 1 + Lib.ctzFrom f (v / 2) := by simp [Lib.ctzFrom, h2]
          rw [e1, e2, e3]; omega
  exact key 64 v h0 h
end Go.Proofs.YtbgkjniagedcnaaGreatDoor
namespace Go.Proofs.YtbgkjniagedcnaaGreatDoor
open Go.RowKit

/-- A number's bytes, with a bound on how many follow. -/
def vbF : Nat → Nat → List Nat
  | 0, v => [v]
  | f + 1, v => if v < 128 then [v] else (v % 128 + 128) :: vbF f (v / 128)
/-- A number's bytes: seven bits each, the lowest first. -/
def vb (v : Nat) : List Nat := vbF v v
theorem vbF_any : ∀ f g v, v ≤ f → v ≤ g → vbF f v = vbF g v
  | 0, 0, v, _, _ => rfl
  | 0, g + 1, v, h, _ => by
    obtain rfl : v = 0 := by omega
    simp [vbF]
  | f + 1, 0, v, _, h => by
    obtain rfl : v = 0 := by omega
    simp [vbF]
  | f + 1, g + 1, v, h1, h2 => by
    unfold vbF
    by_cases h : v < 128
    · rw [if_pos h, if_pos h]
    · rw [if_neg h, if_neg h, vbF_any f g (v / 128) (by omega) (by omega)]
theorem vb_small {v : Nat} (h : v < 128) : vb v = [v] := by
  unfold vb
  cases v with
  | zero => rfl
  | succ n => unfold vbF; rw [if_pos h]
theorem vb_big {v : Nat} (h : 128 ≤ v) : vb v = (v % 128 + 128) :: vb (v / 128) := by
  obtain ⟨n, rfl⟩ : ∃ n, v = n + 1 := ⟨v - 1, by omega⟩
  show vbF (n + 1) (n + 1) = _ :: vbF _ _
  rw [vbF, if_neg (by omega), vbF_any n ((n + 1) / 128) ((n + 1) / 128) (by omega) (Nat.le_refl _)]
/-- How many bytes a number has. -/
def vs (v : Nat) : Nat := (vb v).length
theorem vs_small {v : Nat} (h : v < 128) : vs v = 1 := by unfold vs; rw [vb_small h]; rfl
theorem vs_big {v : Nat} (h : 128 ≤ v) : vs v = vs (v / 128) + 1 := by unfold vs; rw [vb_big h]; rfl
theorem vs_pos (v : Nat) : 1 ≤ vs v := by
  rcases Nat.lt_or_ge v 128 with h | h
  · rw [vs_small h]; exact Nat.le_refl _
  · rw [vs_big h]; omega
theorem vb_b8 (v : Nat) : B8 (vb v) := by
  induction v using Nat.strongRecOn with
  | _ v ih =>
    rcases Nat.lt_or_ge v 128 with h | h
    · rw [vb_small h]; exact B8.one (by omega)
    · rw [vb_big h]
      intro x hx
      rcases List.mem_cons.1 hx with rfl | hx
      · omega
      · exact ih (v / 128) (by omega) x hx
theorem vs_pow : ∀ k v, v < 128 ^ k → 1 ≤ k → vs v ≤ k
  | 0, v, _, h => by omega
  | k + 1, v, h, _ => by
    rcases Nat.lt_or_ge v 128 with hv | hv
    · rw [vs_small hv]; omega
    · rw [vs_big hv]
      have hk : 1 ≤ k := by
        cases k with
        | zero => simp at h; omega
        | succ k => omega
      have := vs_pow k (v / 128) (by rw [Nat.pow_succ] at h; omega) hk
      omega
theorem vs_le {v : Nat} (h : v < 18446744073709551616) : vs v ≤ 10 := vs_pow 10 v (by omega) (by omega)
theorem vs_mono : ∀ u v, v ≤ u → vs v ≤ vs u := by
  intro u
  induction u using Nat.strongRecOn with
  | _ u ih =>
    intro v h
    rcases Nat.lt_or_ge v 128 with hv | hv
    · rw [vs_small hv]; exact vs_pos u
    · rw [vs_big hv, vs_big (show 128 ≤ u by omega)]
      have := ih (u / 128) (by omega) (v / 128) (by omega)
      omega
/-- The place of the highest bit, over seven. -/
theorem vs_top : ∀ k v, v / 2 ^ k = 1 → vs v = k / 7 + 1 := by
  intro k
  induction k using Nat.strongRecOn with
  | _ k ih =>
    intro v h
    have hp : 0 < 2 ^ k := Nat.pow_pos (by decide)
    rcases Nat.lt_or_ge k 7 with hk | hk
    · have hv : v < 128 := by
        have h1 : 2 ^ k ≤ 2 ^ 6 := Nat.pow_le_pow_right (by decide) (by omega)
        have h2 := Nat.div_add_mod v (2 ^ k)
        have h3 := Nat.mod_lt v hp
        rw [h] at h2
        omega
      rw [vs_small hv]; omega
    · obtain ⟨j, rfl⟩ : ∃ j, k = j + 7 := ⟨k - 7, by omega⟩
      have hj : v / 128 / 2 ^ j = 1 := by
        rw [Nat.div_div_eq_div_mul, show 128 * 2 ^ j = 2 ^ (j + 7) by rw [Nat.pow_add]; omega]; exact h
      have hv : 128 ≤ v := by
        rcases Nat.lt_or_ge v 128 with h1 | h1
        · rw [Nat.div_eq_of_lt h1, Nat.zero_div] at hj; omega
        · exact h1
      rw [vs_big hv, ih j (by omega) _ hj]
      omega
theorem vs_odd (v : Nat) : vs (v / 2 * 2 + 1) = vs v := by
  rcases Nat.lt_or_ge v 128 with h | h
  · rw [vs_small h, vs_small (by omega)]
  · rw [vs_big h, vs_big (by omega), show (v / 2 * 2 + 1) / 128 = v / 128 by omega]

/-! ### What bytes tell -/
/-- The number of bytes, seven bits each, the lowest first. -/
def valR : List Nat → Nat
  | [] => 0
  | x :: r => x % 128 + 128 * valR r
theorem valR_lt : ∀ l : List Nat, valR l < 128 ^ l.length
  | [] => by simp [valR]
  | x :: r => by
    have := valR_lt r
    rw [valR, List.length_cons, Nat.pow_succ]
    have : 128 * (valR r + 1) ≤ 128 * 128 ^ r.length := Nat.mul_le_mul_left _ this
    omega
theorem valR_snoc : ∀ (l : List Nat) (x : Nat), valR (l ++ [x]) = valR l + x % 128 * 128 ^ l.length
  | [], x => by simp [valR]
  | y :: r, x => by
    rw [List.cons_append, valR, valR, valR_snoc r x, List.length_cons, Nat.pow_succ, Nat.mul_add, Nat.mul_comm (128 ^ r.length) 128, Nat.mul_left_comm 128]
    omega
theorem valR_take_succ (l : List Nat) (k : Nat) (h : k < l.length) : valR (l.take (k + 1)) = valR (l.take k) + l.getD k 0 % 128 * 128 ^ k := by
  have : l.take (k + 1) = l.take k ++ [l.getD k 0] := by
    rw [List.take_succ_eq_append_getElem h]; simp [h]
  rw [this, valR_snoc, List.length_take, Nat.min_eq_left (by omega)]
theorem valR_take_lt (l : List Nat) (k : Nat) : valR (l.take k) < 128 ^ k := by
  have h := valR_lt (l.take k)
  exact Nat.lt_of_lt_of_le h (Nat.pow_le_pow_right (by decide) (by rw [List.length_take]; omega))
/-- How many bytes there are ahead of the first one below 128. -/
def lead : List Nat → Nat
  | [] => 0
  | x :: r => if x < 128 then 0 else lead r + 1
theorem lead_le : ∀ l, lead l ≤ l.length
  | [] => Nat.le_refl _
  | x :: r => by
    have := lead_le r
    unfold lead
    split
    · omega
    · rw [List.length_cons]; omega
theorem lead_ge : ∀ l i, i < lead l → 128 ≤ l.getD i 0
  | [], i, h => by simp [lead] at h
  | x :: r, i, h => by
    unfold lead at h
    split at h
    · omega
    · cases i with
      | zero => simp; omega
      | succ i => simpa using lead_ge r i (by omega)
theorem lead_at : ∀ l, lead l < l.length → l.getD (lead l) 0 < 128
  | [], h => by simp [lead] at h
  | x :: r, h => by
    unfold lead at h ⊢
    split
    · simpa
    · rename_i hx
      rw [if_neg hx, List.length_cons] at h
      simpa using lead_at r (by omega)
theorem lead_next {l : List Nat} {k : Nat} (hk : k ≤ lead l) (h : k < l.length) (hc : 128 ≤ l.getD k 0) : k + 1 ≤ lead l := by
  rcases Nat.lt_or_ge k (lead l) with h1 | h1
  · exact h1
  · obtain rfl : k = lead l := by omega
    have := lead_at l h
    omega
theorem lead_here {l : List Nat} {k : Nat} (hk : k ≤ lead l) (hc : l.getD k 0 < 128) : lead l = k := by
  rcases Nat.lt_or_ge k (lead l) with h1 | h1
  · have := lead_ge l k h1; omega
  · omega
/-- The number, how many bytes it has, and the error's number. -/
def gt (l : List Nat) : Nat × Nat × Nat :=
  if 9 ≤ lead l ∧ 1 < l.getD 9 0 then (0, 0, 2)
  else if l.length ≤ lead l then (0, 0, 6)
  else if 0 < lead l ∧ l.getD (lead l) 0 = 0 then (0, 0, 3)
  else (valR (l.take (lead l + 1)), lead l + 1, 0)
theorem gt_range {l : List Nat} (h : 9 ≤ lead l) (h1 : 1 < l.getD 9 0) : gt l = (0, 0, 2) := by unfold gt; rw [if_pos ⟨h, h1⟩]
theorem gt_none {l : List Nat} {k : Nat} (hk : k ≤ lead l) (hl : k = l.length) (h9 : k ≤ 9) : gt l = (0, 0, 6) := by
  have h0 : l.getD 9 0 = 0 := by simp [show l.length ≤ 9 by omega]
  unfold gt; rw [if_neg (by omega), if_pos (by omega)]
theorem gt_form {l : List Nat} {k : Nat} (hk : k ≤ lead l) (hl : k < l.length) (h9 : k ≤ 9) (hc : l.getD k 0 = 0) (h0 : 0 < k) : gt l = (0, 0, 3) := by
  have e := lead_here hk (by omega)
  unfold gt
  rw [e, if_neg (fun h => by have : k = 9 := by omega
                             subst this; omega), if_neg (by omega), if_pos ⟨h0, hc⟩]
theorem gt_hit {l : List Nat} {k : Nat} (hk : k ≤ lead l) (hl : k < l.length) (h9 : k ≤ 9) (hc : l.getD k 0 < 128) (h1 : k = 9 → l.getD k 0 ≤ 1) (h0 : 0 < k → l.getD k 0 ≠ 0) : gt l = (valR (l.take (k + 1)), k + 1, 0) := by
  have e := lead_here hk hc
  unfold gt
  rw [e, if_neg (fun h => by have h9 : k = 9 := by omega
                             have := h1 h9
                             subst h9; omega), if_neg (by omega), if_neg (fun h => h0 h.1 h.2)]
/-- Each answer of Get, as it is found. -/
theorem gt_cases (l : List Nat) : gt l = (0, 0, 2) ∨ gt l = (0, 0, 6) ∨ gt l = (0, 0, 3) ∨ gt l = (valR (l.take (lead l + 1)), lead l + 1, 0) := by
  unfold gt
  split
  · exact .inl rfl
  split
  · exact .inr (.inl rfl)
  split
  · exact .inr (.inr (.inl rfl))
  · exact .inr (.inr (.inr rfl))

/-! ### A number's bytes are got -/
theorem vb_lead : ∀ v r, lead (vb v ++ r) + 1 = vs v := by
  intro v
  induction v using Nat.strongRecOn with
  | _ v ih =>
    intro r
    rcases Nat.lt_or_ge v 128 with h | h
    · rw [vs_small h, vb_small h]; simp [lead, h]
    · rw [vs_big h, vb_big h, ← ih (v / 128) (by omega) r, List.cons_append, lead, if_neg (by omega)]
theorem vb_val : ∀ v, valR (vb v) = v := by
  intro v
  induction v using Nat.strongRecOn with
  | _ v ih =>
    rcases Nat.lt_or_ge v 128 with h | h
    · rw [vb_small h]; simp [valR]; omega
    · rw [vb_big h, valR, ih (v / 128) (by omega)]; omega
/-- The last byte: it is not 0, but of 0; it is below 128. -/
theorem vb_last : ∀ v, (vb v).getD (vs v - 1) 0 < 128 ∧ (1 < vs v → (vb v).getD (vs v - 1) 0 ≠ 0) := by
  intro v
  induction v using Nat.strongRecOn with
  | _ v ih =>
    rcases Nat.lt_or_ge v 128 with h | h
    · rw [vs_small h, vb_small h]; exact ⟨by simpa, fun h => by omega⟩
    · have := ih (v / 128) (by omega)
      have hp := vs_pos (v / 128)
      rw [vs_big h, vb_big h]
      obtain ⟨n, hn⟩ : ∃ n, vs (v / 128) = n + 1 := ⟨vs (v / 128) - 1, by omega⟩
      rw [hn] at this ⊢
      simp only [Nat.add_sub_cancel, List.getD_cons_succ] at this ⊢
      refine ⟨this.1, fun _ => ?_⟩
      rcases Nat.eq_zero_or_pos n with h0 | h0
      · subst h0
        rcases Nat.lt_or_ge (v / 128) 128 with h1 | h1
        · rw [vb_small h1]; simp; omega
        · rw [vs_big h1] at hn
          have := vs_pos (v / 128 / 128); omega
      · exact this.2 (by omega)
theorem vb_hi : ∀ k v, vs v = k + 1 → (vb v).getD k 0 = v / 128 ^ k := by
  intro k
  induction k with
  | zero =>
    intro v h
    rcases Nat.lt_or_ge v 128 with h1 | h1
    · rw [vb_small h1]; simp
    · rw [vs_big h1] at h; have := vs_pos (v / 128); omega
  | succ k ih =>
    intro v h
    rcases Nat.lt_or_ge v 128 with h1 | h1
    · rw [vs_small h1] at h; omega
    · rw [vs_big h1] at h
      rw [vb_big h1, List.getD_cons_succ, ih (v / 128) (by omega), Nat.div_div_eq_div_mul, Nat.pow_succ, Nat.mul_comm 128]
theorem getD_left (l r : List Nat) (i : Nat) (h : i < l.length) : (l ++ r).getD i 0 = l.getD i 0 := by simp [List.getD, List.getElem?_append_left h]
theorem gt_vb (v : Nat) (r : List Nat) (h : v < 18446744073709551616) : gt (vb v ++ r) = (v, vs v, 0) := by
  have hl := vb_lead v r
  have hs := vs_le h
  have hp := vs_pos v
  have hlen : vs v = (vb v).length := rfl
  have hlast := vb_last v
  have hd : (vb v ++ r).getD (lead (vb v ++ r)) 0 = (vb v).getD (vs v - 1) 0 := by
    rw [getD_left _ _ _ (by omega), show lead (vb v ++ r) = vs v - 1 by omega]
  have hv : valR ((vb v ++ r).take (lead (vb v ++ r) + 1)) = v := by
    rw [hl, hlen, List.take_left]; exact vb_val v
  rw [gt_hit (Nat.le_refl _) (by rw [List.length_append]; omega) (by omega) (by rw [hd]; exact hlast.1) (fun h9 => ?_) (fun h0 => ?_), hv, hl]
  · rw [hd, show vs v - 1 = 9 by omega, vb_hi 9 v (by omega)]
    omega
  · rw [hd]; exact hlast.2 (by omega)
/-- A number's bytes without the last one are none's. -/
theorem gt_cut (v : Nat) (h : v < 18446744073709551616) : gt ((vb v).take (vs v - 1)) = (0, 0, 6) := by
  have hs := vs_le h
  have hp := vs_pos v
  have hl := vb_lead v []
  rw [List.append_nil] at hl
  have hlen : ((vb v).take (vs v - 1)).length = vs v - 1 := by rw [List.length_take]; show min _ (vs v) = _; omega
  refine gt_none (k := vs v - 1) ?_ hlen.symm (by omega)
  rcases Nat.lt_or_ge (lead ((vb v).take (vs v - 1))) (vs v - 1) with h1 | h1
  · have h2 := lead_at _ (by rw [hlen]; exact h1)
    have h3 := lead_ge (vb v) (lead ((vb v).take (vs v - 1))) (by omega)
    rw [show ((vb v).take (vs v - 1)).getD (lead ((vb v).take (vs v - 1))) 0 = (vb v).getD (lead ((vb v).take (vs v - 1))) 0 by simp [List.getD, h1]] at h2
    omega
  · exact h1
/-- No number's bytes begin those of another one. -/
theorem vb_apart (a b : Nat) (r : List Nat) (ha : a < 18446744073709551616) (hb : b < 18446744073709551616) (h : vb b = vb a ++ r) : a = b := by
  have h1 := gt_vb b [] hb
  rw [List.append_nil, h, gt_vb a r ha] at h1
  exact (Prod.mk.inj h1).1
theorem gt_val_lt (l : List Nat) : (gt l).1 < 18446744073709551616 := by
  unfold gt
  split
  · decide
  rename_i h1
  split
  · decide
  rename_i h2
  split
  · decide
  show valR (l.take (lead l + 1)) < _
  rw [valR_take_succ l (lead l) (by omega)]
  have hlt := valR_take_lt l (lead l)
  have hat := lead_at l (by omega)
  rcases Nat.lt_or_ge (lead l) 9 with h9 | h9
  · have hp : 128 ^ lead l ≤ 128 ^ 8 := Nat.pow_le_pow_right (by decide) (by omega)
    have : l.getD (lead l) 0 % 128 * 128 ^ lead l ≤ 127 * 128 ^ lead l := Nat.mul_le_mul_right _ (by omega)
    omega
  · have h10 : lead l = 9 := by
      rcases Nat.lt_or_ge 9 (lead l) with h | h
      · have := lead_ge l 9 h; omega
      · omega
    rw [h10] at hlt hat ⊢
    have h3 : l.getD 9 0 ≤ 1 := by omega
    have : l.getD 9 0 % 128 * 128 ^ 9 ≤ 1 * 128 ^ 9 := Nat.mul_le_mul_right _ (by omega)
    omega

/-! ### Zigzag -/
/-- Twice n, or 0 less twice n, less 1. -/
def zg (n : Int) : Nat := (if 0 ≤ n then 2 * n else -2 * n - 1).toNat
def zgb (v : Nat) : Int := if v % 2 = 0 then (v / 2 : Nat) else -((v / 2 : Nat) : Int) - 1
theorem zg_zgb (v : Nat) : zg (zgb v) = v := by
  unfold zg zgb
  split <;> split <;> omega
theorem zgb_zg (n : Int) : zgb (zg n) = n := by
  unfold zg zgb
  split <;> split <;> omega
end Go.Proofs.YtbgkjniagedcnaaGreatDoor
namespace Go.Proofs.YtbgkjniagedcnaaGreatDoor
open Go.RowKit

/-- What a reader holds: what is left, and whether something was wrong. -/
structure RS where
  l : List Nat
  wr : Bool
/-- The next byte, and the reader then. -/
def byteS (S : RS) : Nat × RS := if S.l = [] then (0, ⟨[], true⟩) else (S.l.getD 0 0, ⟨S.l.drop 1, false⟩)
/-- The next number, at most 'most'. -/
def numS (S : RS) (most : Nat) : Nat × RS := if (gt S.l).2.2 = 0 ∧ (gt S.l).1 ≤ most then ((gt S.l).1, ⟨S.l.drop (gt S.l).2.1, false⟩) else (0, ⟨[], true⟩)
/-- The next bytes, at most 'most'. -/
def bytesS (S : RS) (most : Nat) : List Nat × RS :=
  if (numS S most).2.wr = false ∧ (numS S most).1 ≤ (numS S most).2.l.length then ((numS S most).2.l.take (numS S most).1, ⟨(numS S most).2.l.drop (numS S most).1, false⟩) else ([], ⟨[], true⟩)
def okS (S : RS) : Bool := !S.wr && S.l.isEmpty
theorem byteS_nil {S : RS} (h : S.l = []) : byteS S = (0, ⟨[], true⟩) := by unfold byteS; rw [if_pos h]
theorem byteS_cons {S : RS} (h : S.l ≠ []) : byteS S = (S.l.getD 0 0, ⟨S.l.drop 1, false⟩) := by unfold byteS; rw [if_neg h]
theorem numS_hit {S : RS} {most : Nat} (h : (gt S.l).2.2 = 0) (h2 : (gt S.l).1 ≤ most) : numS S most = ((gt S.l).1, ⟨S.l.drop (gt S.l).2.1, false⟩) := by unfold numS; rw [if_pos ⟨h, h2⟩]
theorem numS_miss {S : RS} {most : Nat} (h : ¬ ((gt S.l).2.2 = 0 ∧ (gt S.l).1 ≤ most)) : numS S most = (0, ⟨[], true⟩) := by unfold numS; rw [if_neg h]
theorem bytesS_hit {S : RS} {most : Nat} (h : (numS S most).2.wr = false) (h2 : (numS S most).1 ≤ (numS S most).2.l.length) : bytesS S most = ((numS S most).2.l.take (numS S most).1, ⟨(numS S most).2.l.drop (numS S most).1, false⟩) := by unfold bytesS; rw [if_pos ⟨h, h2⟩]
theorem bytesS_miss {S : RS} {most : Nat} (h : ¬ ((numS S most).2.wr = false ∧ (numS S most).1 ≤ (numS S most).2.l.length)) : bytesS S most = ([], ⟨[], true⟩) := by unfold bytesS; rw [if_neg h]
/-- A number that was found: how many bytes it has. -/
theorem gt_len (l : List Nat) (h : (gt l).2.2 = 0) : 1 ≤ (gt l).2.1 ∧ (gt l).2.1 ≤ l.length ∧ (gt l).2.1 ≤ 10 := by
  unfold gt at h ⊢
  split
  · rename_i h1; rw [if_pos h1] at h; simp at h
  rename_i h1; rw [if_neg h1] at h
  split
  · rename_i h2; rw [if_pos h2] at h; simp at h
  rename_i h2; rw [if_neg h2] at h
  split
  · rename_i h3; rw [if_pos h3] at h; simp at h
  have h9 : lead l ≤ 9 := by
    rcases Nat.lt_or_ge 9 (lead l) with h4 | h4
    · have := lead_ge l 9 h4; omega
    · exact h4
  refine ⟨?_, ?_, ?_⟩
  · show 1 ≤ lead l + 1; omega
  · show lead l + 1 ≤ l.length; omega
  · show lead l + 1 ≤ 10; omega
theorem gt_err_le (l : List Nat) : (gt l).2.2 ≤ 6 := by
  rcases gt_cases l with h | h | h | h <;> rw [h] <;> simp
theorem gt_nil : gt [] = (0, 0, 6) := by decide
theorem numS_nil (most : Nat) {S : RS} (h : S.l = []) : numS S most = (0, ⟨[], true⟩) := numS_miss (by rw [h, gt_nil]; simp)
theorem numS_wr {S : RS} {most : Nat} (h : (numS S most).2.wr = true) : numS S most = (0, ⟨[], true⟩) := by
  by_cases hc : (gt S.l).2.2 = 0 ∧ (gt S.l).1 ≤ most
  · rw [numS_hit hc.1 hc.2] at h; simp at h
  · exact numS_miss hc
theorem numS_ok {S : RS} {most : Nat} (h : (numS S most).2.wr = false) : numS S most = ((gt S.l).1, ⟨S.l.drop (gt S.l).2.1, false⟩) ∧ (gt S.l).2.2 = 0 ∧ (gt S.l).1 ≤ most := by
  by_cases hc : (gt S.l).2.2 = 0 ∧ (gt S.l).1 ≤ most
  · exact ⟨numS_hit hc.1 hc.2, hc⟩
  · rw [numS_miss hc] at h; simp at h
theorem numS_le (S : RS) (most : Nat) : (numS S most).1 ≤ most := by
  by_cases hc : (gt S.l).2.2 = 0 ∧ (gt S.l).1 ≤ most
  · rw [numS_hit hc.1 hc.2]; exact hc.2
  · rw [numS_miss hc]; exact Nat.zero_le _
theorem numS_lt (S : RS) (most : Nat) : (numS S most).1 < 18446744073709551616 := by
  by_cases hc : (gt S.l).2.2 = 0 ∧ (gt S.l).1 ≤ most
  · rw [numS_hit hc.1 hc.2]; exact gt_val_lt _
  · rw [numS_miss hc]; decide

/-! ### What was put comes out -/
theorem numS_put (v most : Nat) (r : List Nat) (wr : Bool) (h : v < 18446744073709551616) (hm : v ≤ most) : numS ⟨vb v ++ r, wr⟩ most = (v, ⟨r, false⟩) := by
  have e := gt_vb v r h
  rw [numS_hit (by rw [e]) (by rw [e]; exact hm), e]
  show (v, RS.mk ((vb v ++ r).drop (vb v).length) false) = _
  rw [List.drop_left]
theorem bytesS_put (s r : List Nat) (wr : Bool) (most : Nat) (h : s.length < 18446744073709551616) (hm : s.length ≤ most) : bytesS ⟨vb s.length ++ (s ++ r), wr⟩ most = (s, ⟨r, false⟩) := by
  have e := numS_put s.length most (s ++ r) wr h hm
  rw [bytesS_hit (by rw [e]) (by rw [e]; simp), e]
  show ((s ++ r).take s.length, RS.mk ((s ++ r).drop s.length) false) = _
  rw [List.take_left, List.drop_left]
theorem byteS_put (x : Nat) (r : List Nat) (wr : Bool) : byteS ⟨x :: r, wr⟩ = (x, ⟨r, false⟩) := by rw [byteS_cons (by simp)]; rfl
end Go.Proofs.YtbgkjniagedcnaaGreatDoor
