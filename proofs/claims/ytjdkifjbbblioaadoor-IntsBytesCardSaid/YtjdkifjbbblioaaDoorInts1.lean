/-
  The calls of package ints that only reckon, and those of the document's answers: each call's answer, in plain numbers.
-/
import Derived.Test.YtjdkifjbbblioaaDoorProg
import Derived.Test.YtjdkifjbbblioaaDoorMath1
import Derived.Test.YtjdkifjbbblioaaDoorLen
import Derived.WalkKit
import Derived.Below
import Derived.Lib.Hide
namespace Go.Proofs.YtjdkifjbbblioaaDoor
open Go.RowKit

theorem isWidth_yes (b : Int) (w : World) (h1 : 1 ≤ b) (h2 : b ≤ 64) : Calls Tryd.prog 26 #[.int .i64 b] w fun e w' => e = .returned (.bool true) ∧ w = w' := by
  go_enter Tryd.func26, Tryd.ntmps26
  go_wp2
  go_ret
  exact ⟨rfl, rfl⟩
theorem isWidth_no (b : Int) (w : World) (h : b < 1 ∨ 64 < b) : Calls Tryd.prog 26 #[.int .i64 b] w fun e w' => e = .returned (.bool false) ∧ w = w' := by
  rcases h with h | h
  · go_enter Tryd.func26, Tryd.ntmps26
    go_wp2
    go_ret
    exact ⟨rfl, rfl⟩
  · have h1 : decide (1 ≤ b) = true := by simp; omega
    have h2 : decide (b ≤ 64) = false := by simp; omega
    go_enter Tryd.func26, Tryd.ntmps26
    go_wp2
    go_ret
    exact ⟨rfl, rfl⟩
theorem within_any (v b : Nat) (w : World) (h : b ≤ 64) : Calls Tryd.prog 27 #[.int .u64 v, .int .i64 b] w fun e w' => e = .returned (.bool ((v : Int) / 2 ^ b == 0)) ∧ w = w' := by
  go_enter Tryd.func27, Tryd.ntmps27
  go_wp2
  go_ret
  exact ⟨rfl, rfl⟩
theorem within_yes (v b : Nat) (h : v < 2 ^ b) : ((v : Int) / 2 ^ b == 0) = true := by
  have e : (2 : Int) ^ b = ((2 ^ b : Nat) : Int) := by simp
  rw [e, ← Int.natCast_ediv, Nat.div_eq_of_lt h]; rfl
theorem within_no (v b : Nat) (h : 2 ^ b ≤ v) : ((v : Int) / 2 ^ b == 0) = false := by
  have e : (2 : Int) ^ b = ((2 ^ b : Nat) : Int) := by simp
  have := Nat.div_pos h (pow_pos' b)
  rw [e, ← Int.natCast_ediv, beq_eq_false_iff_ne]
  omega

/-! ### Signed -/
theorem signed_in (v b : Nat) (w : World) (h1 : 1 ≤ b) (h2 : b ≤ 64) (hv : v < 2 ^ b) :
    Calls Tryd.prog 15 #[.int .u64 v, .int .i64 b] w fun e w' => e = .returned (.tuple #[.int .i64 (sgn v b), .nilIface]) ∧ w = w' := by
  have hw := within_yes v b hv
  have hs := Lib.hid (sgn_shift v b h1 h2 hv)
  clear hv
  go_enter Tryd.func15, Tryd.ntmps15
  go_wp2_with (first | (go_at_call 26; refine (isWidth_yes _ _ (by omega) (by omega)).mono ?_; rintro e w' ⟨rfl, rfl⟩) | (go_at_call 27; refine (within_any _ _ _ (by omega)).mono ?_; rintro e w' ⟨rfl, rfl⟩))
  go_ret2
  exact ⟨by rw [← hs.out]; rfl, rfl⟩
theorem signed_range (v b : Nat) (w : World) (h1 : 1 ≤ b) (h2 : b ≤ 64) (hv : 2 ^ b ≤ v) :
    Calls Tryd.prog 15 #[.int .u64 v, .int .i64 b] w fun e w' => e = .returned (.tuple #[.int .i64 0, .iface 47 (.int .i64 2)]) ∧ w = w' := by
  have hw := within_no v b hv
  clear hv
  go_enter Tryd.func15, Tryd.ntmps15
  go_wp2_with (first | (go_at_call 26; refine (isWidth_yes _ _ (by omega) (by omega)).mono ?_; rintro e w' ⟨rfl, rfl⟩) | (go_at_call 27; refine (within_any _ _ _ (by omega)).mono ?_; rintro e w' ⟨rfl, rfl⟩))
  go_ret2
  exact ⟨rfl, rfl⟩
theorem signed_arg (v : Nat) (b : Int) (w : World) (h : b < 1 ∨ 64 < b) :
    Calls Tryd.prog 15 #[.int .u64 v, .int .i64 b] w fun e w' => e = .returned (.tuple #[.int .i64 0, .iface 47 (.int .i64 1)]) ∧ w = w' := by
  go_enter Tryd.func15, Tryd.ntmps15
  go_wp2_with (first | (go_at_call 26; refine (isWidth_no _ _ (by assumption)).mono ?_; rintro e w' ⟨rfl, rfl⟩))
  go_ret2
  exact ⟨rfl, rfl⟩

/-! ### Small -/
theorem small_in (n b : Nat) (w : World) (h1 : 1 ≤ b) (h2 : b ≤ 64) (hn : n < 9223372036854775808) (hv : n < 2 ^ b) :
    Calls Tryd.prog 13 #[.int .i64 n, .int .i64 b] w fun e w' => e = .returned (.tuple #[.int .u64 n, .nilIface]) ∧ w = w' := by
  have hw := within_yes n b hv
  clear hv
  have h0 : decide ((n : Int) < 0) = false := by simp
  go_enter Tryd.func13, Tryd.ntmps13
  go_wp2_with (first | (go_at_call 26; refine (isWidth_yes _ _ (by omega) (by omega)).mono ?_; rintro e w' ⟨rfl, rfl⟩) | (go_at_call 27; refine (within_any _ _ _ (by omega)).mono ?_; rintro e w' ⟨rfl, rfl⟩))
  go_ret2
  exact ⟨rfl, rfl⟩
theorem small_range (n b : Nat) (w : World) (h1 : 1 ≤ b) (h2 : b ≤ 64) (hn : n < 9223372036854775808) (hv : 2 ^ b ≤ n) :
    Calls Tryd.prog 13 #[.int .i64 n, .int .i64 b] w fun e w' => e = .returned (.tuple #[.int .u64 0, .iface 47 (.int .i64 2)]) ∧ w = w' := by
  have hw := within_no n b hv
  clear hv
  have h0 : decide ((n : Int) < 0) = false := by simp
  go_enter Tryd.func13, Tryd.ntmps13
  go_wp2_with (first | (go_at_call 26; refine (isWidth_yes _ _ (by omega) (by omega)).mono ?_; rintro e w' ⟨rfl, rfl⟩) | (go_at_call 27; refine (within_any _ _ _ (by omega)).mono ?_; rintro e w' ⟨rfl, rfl⟩))
  go_ret2
  exact ⟨rfl, rfl⟩
theorem small_neg (n : Int) (b : Int) (w : World) (h1 : 1 ≤ b) (h2 : b ≤ 64) (hn : n < 0) :
    Calls Tryd.prog 13 #[.int .i64 n, .int .i64 b] w fun e w' => e = .returned (.tuple #[.int .u64 0, .iface 47 (.int .i64 2)]) ∧ w = w' := by
  have h0 : decide (n < 0) = true := by simpa using hn
  go_enter Tryd.func13, Tryd.ntmps13
  go_wp2_with (first | (go_at_call 26; refine (isWidth_yes _ _ (by omega) (by omega)).mono ?_; rintro e w' ⟨rfl, rfl⟩))
  go_ret2
  exact ⟨rfl, rfl⟩
theorem small_arg (n : Int) (b : Int) (w : World) (h : b < 1 ∨ 64 < b) :
    Calls Tryd.prog 13 #[.int .i64 n, .int .i64 b] w fun e w' => e = .returned (.tuple #[.int .u64 0, .iface 47 (.int .i64 1)]) ∧ w = w' := by
  go_enter Tryd.func13, Tryd.ntmps13
  go_wp2_with (first | (go_at_call 26; refine (isWidth_no _ _ (by assumption)).mono ?_; rintro e w' ⟨rfl, rfl⟩))
  go_ret2
  exact ⟨rfl, rfl⟩

/-! ### Up -/
theorem up_same (n k : Nat) (w : World) (hn : n < 18446744073709551616) (hk : k < 64) (hm : n % 2 ^ k = 0) :
    Calls Tryd.prog 17 #[.int .u64 n, .int .i64 k] w fun e w' => e = .returned (.tuple #[.int .u64 n, .nilIface]) ∧ w = w' := by
  have h : (bits .and .u64 (n : Int) (IntKind.u64.wrap (IntKind.u64.wrap ((2 : Int) ^ k) - 1)) == 0) = true := by rw [and_ones n k hn hk, hm]; rfl
  clear hm
  have h1 : decide ((k : Int) < 0) = false := by simp
  have h2 : decide (64 ≤ (k : Int)) = false := by simp; omega
  go_enter Tryd.func17, Tryd.ntmps17
  go_wp2
  go_ret2
  exact ⟨rfl, rfl⟩
theorem up_next (n k : Nat) (w : World) (hn : n < 18446744073709551616) (hk : k < 64) (hm : n % 2 ^ k ≠ 0) (hl : (n / 2 ^ k + 1) * 2 ^ k < 18446744073709551616) :
    Calls Tryd.prog 17 #[.int .u64 n, .int .i64 k] w fun e w' => e = .returned (.tuple #[.int .u64 ((n / 2 ^ k + 1) * 2 ^ k : Nat), .nilIface]) ∧ w = w' := by
  have h : (bits .and .u64 (n : Int) (IntKind.u64.wrap (IntKind.u64.wrap ((2 : Int) ^ k) - 1)) == 0) = false := by rw [and_ones n k hn hk, beq_eq_false_iff_ne]; omega
  have ho := or_next n k hn hk
  rw [Nat.mod_eq_of_lt hl] at ho
  have hq : (IntKind.u64.wrap (bits .or .u64 (n : Int) (IntKind.u64.wrap (IntKind.u64.wrap ((2 : Int) ^ k) - 1)) + 1) == 0) = false := by
    rw [ho]
    have := Nat.mul_pos (Nat.succ_pos (n / 2 ^ k)) (pow_pos' k)
    rw [beq_eq_false_iff_ne]
    intro h0
    rw [Int.natCast_eq_zero] at h0
    exact Nat.ne_of_gt this h0
  have Ho := Lib.hid ho
  clear hm ho hl
  have h1 : decide ((k : Int) < 0) = false := by simp
  have h2 : decide (64 ≤ (k : Int)) = false := by simp; omega
  go_enter Tryd.func17, Tryd.ntmps17
  go_wp2
  go_ret2
  exact ⟨by rw [← Ho.out]; rfl, rfl⟩
theorem up_over (n k : Nat) (w : World) (hn : n < 18446744073709551616) (hk : k < 64) (hm : n % 2 ^ k ≠ 0) (hl : (n / 2 ^ k + 1) * 2 ^ k = 18446744073709551616) :
    Calls Tryd.prog 17 #[.int .u64 n, .int .i64 k] w fun e w' => e = .returned (.tuple #[.int .u64 0, .iface 47 (.int .i64 2)]) ∧ w = w' := by
  have h : (bits .and .u64 (n : Int) (IntKind.u64.wrap (IntKind.u64.wrap ((2 : Int) ^ k) - 1)) == 0) = false := by rw [and_ones n k hn hk, beq_eq_false_iff_ne]; omega
  have hq : (IntKind.u64.wrap (bits .or .u64 (n : Int) (IntKind.u64.wrap (IntKind.u64.wrap ((2 : Int) ^ k) - 1)) + 1) == 0) = true := by
    rw [or_next n k hn hk, hl]; rfl
  clear hm hl
  have h1 : decide ((k : Int) < 0) = false := by simp
  have h2 : decide (64 ≤ (k : Int)) = false := by simp; omega
  go_enter Tryd.func17, Tryd.ntmps17
  go_wp2
  go_ret2
  exact ⟨rfl, rfl⟩
theorem up_arg (n k : Int) (w : World) (h : k < 0 ∨ 64 ≤ k) :
    Calls Tryd.prog 17 #[.int .u64 n, .int .i64 k] w fun e w' => e = .returned (.tuple #[.int .u64 0, .iface 47 (.int .i64 1)]) ∧ w = w' := by
  by_cases hk : k < 0
  · have h1 : decide (k < 0) = true := by simpa using hk
    clear h
    go_enter Tryd.func17, Tryd.ntmps17
    go_wp2
    go_ret2
    exact ⟨rfl, rfl⟩
  · have h1 : decide (k < 0) = false := by simpa using hk
    have h2 : decide (64 ≤ k) = true := by simp; omega
    clear h
    go_enter Tryd.func17, Tryd.ntmps17
    go_wp2
    go_ret2
    exact ⟨rfl, rfl⟩

/-! ### Ones, Lowest, Highest -/
theorem libOnes (n : Nat) (w : World) (hn : n < 18446744073709551616) : Calls Tryd.prog 28 #[.int .u64 n] w fun e w' => e = .returned (.int .i64 (pop n)) ∧ w = w' := by
  have he := Lib.hid (ones_eq n hn)
  go_enter Tryd.func28, Tryd.ntmps28
  go_wp2
  go_ret
  exact ⟨by rw [← he.out]; rfl, rfl⟩
theorem ones_any (n : Nat) (w : World) (hn : n < 18446744073709551616) : Calls Tryd.prog 19 #[.int .u64 n] w fun e w' => e = .returned (.int .i64 (pop n)) ∧ w = w' := by
  go_enter Tryd.func19, Tryd.ntmps19
  go_wp2_with (go_at_call 28; refine (libOnes _ _ hn).mono ?_; rintro e w' ⟨rfl, rfl⟩)
  go_ret
  exact ⟨rfl, rfl⟩
theorem tz64_key' (x a : Nat) (hx : x < 18446744073709551616) (hx0 : x ≠ 0) (hlow : x &&& (18446744073709551616 - x) = a) :
    IntKind.u64.wrap (bits BinOp.and IntKind.u64 (x : Int) (IntKind.u64.wrap (-(x : Int))) * 285870213051353865) / 288230376151711744 = ((a * 285870213051353865 % 18446744073709551616 / 288230376151711744 : Nat) : Int) := by
  have e1 : IntKind.u64.wrap (-(x : Int)) = ((18446744073709551616 - x : Nat) : Int) := by rw [IntKind.wrap_u64]; omega
  rw [e1, bits_and_u64_nat x _ hx (by omega), hlow, IntKind.wrap_u64]
  omega
/-- The library's table, in its variable. -/
def TabIn (w : World) : Prop := ∀ j, j < Lib.deBruijn64tab.length → w.cell? ⟨1, j, none⟩ = some (.int .u8 (Lib.deBruijn64tab.getD j 0))
theorem libTz_core (x k idx : Nat) (w : World) (hx0 : ((x : Int) == 0) = false)
    (key : IntKind.u64.wrap (bits BinOp.and IntKind.u64 (x : Int) (IntKind.u64.wrap (-(x : Int))) * 285870213051353865) / 288230376151711744 = (idx : Int))
    (hi : idx < 64) (hk : k < 64) (hcell : w.cell? ⟨1, idx, none⟩ = some (.int .u8 k)) :
    Calls Tryd.prog 29 #[.int .u64 x] w fun e w' => e = .returned (.int .i64 k) ∧ w = w' := by
  go_enter Tryd.func29, Tryd.ntmps29
  go_wp2_with (simp only [key])
  go_ret
  exact ⟨rfl, rfl⟩
theorem libTz (x : Nat) (w : World) (hx0 : 0 < x) (hx : x < 18446744073709551616) (hT : TabIn w) :
    Calls Tryd.prog 29 #[.int .u64 x] w fun e w' => e = .returned (.int .i64 (Lib.ctzFrom 64 x)) ∧ w = w' := by
  obtain ⟨hlow, hk⟩ := Lib.lowest_bit 64 x (by omega) hx
  obtain ⟨hi, htab⟩ := Lib.deBruijn64_at _ hk
  have hcell := hT _ hi
  rw [htab] at hcell
  have e : Lib.ctz 64 x = Lib.ctzFrom 64 x := by unfold Lib.ctz; rw [if_neg (by omega)]
  rw [← e]
  exact libTz_core x _ _ w (by simp; omega) (tz64_key' x _ hx (by omega) hlow) hi hk hcell
theorem lowest_pos (x : Nat) (w : World) (hx0 : 0 < x) (hx : x < 18446744073709551616) (hT : TabIn w) :
    Calls Tryd.prog 21 #[.int .u64 x] w fun e w' => e = .returned (.int .i64 (Lib.ctzFrom 64 x)) ∧ w = w' := by
  have h0 : ((x : Int) == 0) = false := by simp; omega
  go_enter Tryd.func21, Tryd.ntmps21
  go_wp2_with (go_at_call 29; refine (libTz _ _ hx0 hx hT).mono ?_; rintro e w' ⟨rfl, rfl⟩)
  go_ret
  exact ⟨rfl, rfl⟩
theorem lowest_zero (w : World) : Calls Tryd.prog 21 #[.int .u64 0] w fun e w' => e = .returned (.int .i64 (-1)) ∧ w = w' := by
  go_enter Tryd.func21, Tryd.ntmps21
  go_wp2
  go_ret
  exact ⟨rfl, rfl⟩
theorem highest_pos (x : Nat) (w : World) (h0 : 0 < x) (hx : x < 18446744073709551616) : Calls Tryd.prog 23 #[.int .u64 x] w fun e w' => e = .returned (.int .i64 (Lib.bitLen x - 1 : Nat)) ∧ w = w' := by
  have hb := bitLen_top x h0 hx
  have b1 := hb.1
  have b2 := hb.2.1
  clear hb
  have e : (x : Int).toNat = x := rfl
  have hl := libLen x w (by omega) (by omega)
  rw [e] at hl
  have ec : ((Lib.bitLen x - 1 : Nat) : Int) = (Lib.bitLen x : Int) - 1 := by omega
  rw [ec]
  clear ec e
  generalize Lib.bitLen x = L at *
  go_enter Tryd.func23, Tryd.ntmps23
  go_wp2_with (go_at_call 30; refine hl.mono ?_; rintro e w' ⟨rfl, rfl⟩)
  go_ret
  exact ⟨rfl, rfl⟩
theorem highest_zero (w : World) : Calls Tryd.prog 23 #[.int .u64 0] w fun e w' => e = .returned (.int .i64 (-1)) ∧ w = w' := by
  have hl := libLen 0 w (by omega) (by omega)
  have e : Lib.bitLen (0 : Int).toNat = 0 := by decide +kernel
  rw [e] at hl
  clear e
  go_enter Tryd.func23, Tryd.ntmps23
  go_wp2_with (go_at_call 30; refine hl.mono ?_; rintro e w' ⟨rfl, rfl⟩)
  go_ret
  exact ⟨rfl, rfl⟩
end Go.Proofs.YtjdkifjbbblioaaDoor
