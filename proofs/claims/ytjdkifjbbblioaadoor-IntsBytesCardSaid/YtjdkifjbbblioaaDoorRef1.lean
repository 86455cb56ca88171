/-
  The document's answers of layer 1: bits counted one by one, halves.
-/
import Derived.Test.YtjdkifjbbblioaaDoorProg
import Derived.Test.YtjdkifjbbblioaaDoorMath1
import Derived.Test.YtjdkifjbbblioaaDoorMath2
import Derived.WalkKit
import Derived.Below
import Derived.Lib.Hide
namespace Go.Proofs.YtjdkifjbbblioaaDoor
open Go.RowKit

theorem popF_fuel : ∀ f x, x < 2 ^ f → popF (f + 1) x = popF f x
  | 0, x, h => by simp at h; subst h; rfl
  | f + 1, x, h => by
    have h2 : x / 2 < 2 ^ f := by rw [Nat.pow_succ] at h; omega
    show x % 2 + popF (f + 1) (x / 2) = x % 2 + popF f (x / 2)
    rw [popF_fuel f _ h2]
theorem pop_half (x : Nat) (h : x < 18446744073709551616) : pop x = x % 2 + pop (x / 2) := by
  have := popF_fuel 63 (x / 2) (by omega)
  show x % 2 + popF 63 (x / 2) = x % 2 + popF 64 (x / 2)
  rw [this]
theorem ctz_fuel : ∀ f x, 0 < x → x < 2 ^ f → Lib.ctzFrom (f + 1) x = Lib.ctzFrom f x
  | 0, x, h0, h => by simp at h; omega
  | f + 1, x, h0, h => by
    have h2 : x / 2 < 2 ^ f := by rw [Nat.pow_succ] at h; omega
    by_cases h1 : x % 2 = 1
    · simp [Lib.ctzFrom, h1]
    · have e1 : Lib.ctzFrom (f + 1 + 1) x = 1 + Lib.ctzFrom (f + 1) (x / 2) := by rw [Lib.ctzFrom, if_neg h1]
      have e2 : Lib.ctzFrom (f + 1) x = 1 + Lib.ctzFrom f (x / 2) := by rw [Lib.ctzFrom, if_neg h1]
      rw [e1, e2, ctz_fuel f _ (by omega) h2]
theorem ctz_half (x : Nat) (h0 : 0 < x) (h : x < 18446744073709551616) (h1 : x % 2 = 0) : Lib.ctzFrom 64 x = 1 + Lib.ctzFrom 64 (x / 2) := by
  have := ctz_fuel 63 (x / 2) (by omega) (by omega)
  rw [show Lib.ctzFrom 64 x = 1 + Lib.ctzFrom 63 (x / 2) from by rw [Lib.ctzFrom, if_neg (by omega)], this]
theorem ctz_odd (x : Nat) (h1 : x % 2 = 1) : Lib.ctzFrom 64 x = 0 := by rw [Lib.ctzFrom, if_pos h1]
theorem bitLen_le64 (v : Nat) (h : v < 18446744073709551616) : Lib.bitLen v ≤ 64 := by
  rcases Nat.eq_zero_or_pos v with rfl | h0
  · rw [bitLen_zero]; omega
  · exact (bitLen_top v h0 h).2.1
theorem bitLen_le_iff (v b : Nat) (h : v < 18446744073709551616) : Lib.bitLen v ≤ b ↔ v < 2 ^ b := by
  rcases Nat.eq_zero_or_pos v with rfl | h0
  · rw [bitLen_zero]; simp [pow_pos']
  · obtain ⟨h1, h2, h3⟩ := bitLen_top v h0 h
    have hp := pow_pos' (Lib.bitLen v - 1)
    have lo : 2 ^ (Lib.bitLen v - 1) ≤ v := by
      have := Nat.div_mul_le_self v (2 ^ (Lib.bitLen v - 1)); rw [h3] at this; omega
    have hi : v < 2 ^ (Lib.bitLen v) := by
      have := (Nat.div_lt_iff_lt_mul (x := v) (y := 2) hp).1 (by omega)
      rw [Nat.mul_comm, ← Nat.pow_succ, show (Lib.bitLen v - 1).succ = Lib.bitLen v from by omega] at this
      exact this
    constructor
    · intro hb; exact Nat.lt_of_lt_of_le hi (Nat.pow_le_pow_right (by decide) hb)
    · intro hb
      apply Nat.le_of_not_lt
      intro hlt
      have := Nat.pow_le_pow_right (n := 2) (by decide) (show b ≤ Lib.bitLen v - 1 by omega)
      omega

theorem refBits_any (v : Nat) (w : World) (hv : v < 18446744073709551616) : Calls Tryd.prog 24 #[.int .u64 v] w fun e w' => e = .returned (.int .i64 (Lib.bitLen v)) ∧ w = w' := by
  have hle := bitLen_le64 v hv
  generalize hL : Lib.bitLen v = L at *
  have HL := Lib.hid hL
  clear hL
  go_enter Tryd.func24, Tryd.ntmps24
  go_wp2
  go_loop [0, 3] (fun x n => ∃ y k : Nat, x = .int .u64 y ∧ n = .int .i64 k ∧ k + Lib.bitLen y ≤ L ∧ L ≤ k + Lib.bitLen y ∧ y < 18446744073709551616) (fun x _ => (intOf x).toNat)
  case atStart => exact ⟨v, 0, rfl, rfl, by rw [HL.out]; omega, by rw [HL.out]; omega, hv⟩
  case round =>
    obtain ⟨y, k, rfl, rfl, h1, h2, hy⟩ := hrel
    by_cases h0 : 0 < y
    · have hh := Lib.hid (Lib.bitLen_half y (by omega) hy)
      have hk : k ≤ 64 := by omega
      have h1' := Lib.hid h1
      have h2' := Lib.hid h2
      clear h1 h2
      go_wp2
      go_round
      case rel => exact ⟨y / 2, k + 1, by go_num, by go_num, by have a := h1'.out; have b := hh.out; omega, by have a := h2'.out; have b := hh.out; omega, by omega⟩
      case measure => simp [intOf]; omega
    · obtain rfl : y = 0 := by omega
      rw [bitLen_zero] at h1 h2
      obtain rfl : k = L := by omega
      go_wp2
      go_ret
      exact ⟨rfl, rfl⟩
theorem refOnes_any (v : Nat) (w : World) (hv : v < 18446744073709551616) : Calls Tryd.prog 20 #[.int .u64 v] w fun e w' => e = .returned (.int .i64 (pop v)) ∧ w = w' := by
  have hle : pop v ≤ 64 := pop_le v 64
  generalize hL : pop v = L at *
  have HL := Lib.hid hL
  clear hL
  go_enter Tryd.func20, Tryd.ntmps20
  go_wp2
  go_loop [0, 3] (fun x n => ∃ y k : Nat, x = .int .u64 y ∧ n = .int .i64 k ∧ k + pop y ≤ L ∧ L ≤ k + pop y ∧ y < 18446744073709551616) (fun x _ => (intOf x).toNat)
  case atStart => exact ⟨v, 0, rfl, rfl, by rw [HL.out]; omega, by rw [HL.out]; omega, hv⟩
  case round =>
    obtain ⟨y, k, rfl, rfl, h1, h2, hy⟩ := hrel
    by_cases h0 : 0 < y
    · have hh := Lib.hid (pop_half y hy)
      have hk : k ≤ 64 := by omega
      have h1' := Lib.hid h1
      have h2' := Lib.hid h2
      clear h1 h2
      go_wp2
      go_round
      case rel => exact ⟨y / 2, k + y % 2, by go_num, by go_num, by have a := h1'.out; have b := hh.out; omega, by have a := h2'.out; have b := hh.out; omega, by omega⟩
      case measure => simp [intOf]; omega
    · obtain rfl : y = 0 := by omega
      have e : pop 0 = 0 := popF_zero 64
      rw [e] at h1 h2
      obtain rfl : k = L := by omega
      go_wp2
      go_ret
      exact ⟨rfl, rfl⟩
theorem refLowest_zero (w : World) : Calls Tryd.prog 22 #[.int .u64 0] w fun e w' => e = .returned (.int .i64 (-1)) ∧ w = w' := by
  go_enter Tryd.func22, Tryd.ntmps22
  go_wp2
  go_ret
  exact ⟨rfl, rfl⟩
theorem refLowest_pos (v : Nat) (w : World) (hv0 : 0 < v) (hv : v < 18446744073709551616) : Calls Tryd.prog 22 #[.int .u64 v] w fun e w' => e = .returned (.int .i64 (Lib.ctzFrom 64 v)) ∧ w = w' := by
  have hle : Lib.ctzFrom 64 v < 64 := (pop_low 64 v hv0 hv).2.2
  generalize hL : Lib.ctzFrom 64 v = L at *
  have HL := Lib.hid hL
  clear hL
  have hz : ((v : Int) == 0) = false := by rw [beq_eq_false_iff_ne]; omega
  go_enter Tryd.func22, Tryd.ntmps22
  go_wp2
  go_loop [0, 3] (fun x n => ∃ y k : Nat, x = .int .u64 y ∧ n = .int .i64 k ∧ k + Lib.ctzFrom 64 y ≤ L ∧ L ≤ k + Lib.ctzFrom 64 y ∧ 0 < y ∧ y < 18446744073709551616) (fun x _ => (intOf x).toNat)
  case atStart => exact ⟨v, 0, rfl, rfl, by rw [HL.out]; omega, by rw [HL.out]; omega, hv0, hv⟩
  case round =>
    obtain ⟨y, k, rfl, rfl, h1, h2, hy0, hy⟩ := hrel
    by_cases h0 : y % 2 = 0
    · have hh := Lib.hid (ctz_half y hy0 hy h0)
      have hk : k ≤ 64 := by omega
      have h1' := Lib.hid h1
      have h2' := Lib.hid h2
      have hb : (((y : Int) % 2) == 0) = true := by rw [beq_iff_eq]; omega
      have H0 := Lib.hid h0
      clear h1 h2 h0
      go_wp2
      go_round
      case rel => exact ⟨y / 2, k + 1, by go_num, by go_num, by have a := h1'.out; have b := hh.out; omega, by have a := h2'.out; have b := hh.out; omega, by have := H0.out; omega, by omega⟩
      case measure => simp [intOf]; omega
    · rw [ctz_odd y (by omega)] at h1 h2
      obtain rfl : k = L := by omega
      have hb : (((y : Int) % 2) == 0) = false := by rw [beq_eq_false_iff_ne]; omega
      clear h0
      go_wp2
      go_ret
      exact ⟨rfl, rfl⟩

/-! ### Small, Signed, Up -/
theorem refSmall_arg (n b : Int) (w : World) (h : b < 1 ∨ 64 < b) : Calls Tryd.prog 14 #[.int .i64 n, .int .i64 b] w fun e w' => e = .returned (.tuple #[.int .u64 0, .int .i64 1]) ∧ w = w' := by
  by_cases h1 : b < 1
  · have d1 : decide (b < 1) = true := by simpa using h1
    clear h
    go_enter Tryd.func14, Tryd.ntmps14
    go_wp2
    go_ret2
    exact ⟨rfl, rfl⟩
  · have d1 : decide (b < 1) = false := by simpa using h1
    have d2 : decide (64 < b) = true := by simp; omega
    clear h
    go_enter Tryd.func14, Tryd.ntmps14
    go_wp2
    go_ret2
    exact ⟨rfl, rfl⟩
theorem refSmall_neg (n b : Int) (w : World) (h1 : 1 ≤ b) (h2 : b ≤ 64) (hn : n < 0) : Calls Tryd.prog 14 #[.int .i64 n, .int .i64 b] w fun e w' => e = .returned (.tuple #[.int .u64 0, .int .i64 2]) ∧ w = w' := by
  have d1 : decide (b < 1) = false := by simp; omega
  have d2 : decide (64 < b) = false := by simp; omega
  have d3 : decide (n < 0) = true := by simpa using hn
  go_enter Tryd.func14, Tryd.ntmps14
  go_wp2
  go_ret2
  exact ⟨rfl, rfl⟩
theorem refSmall_range (n b : Nat) (w : World) (h1 : 1 ≤ b) (h2 : b ≤ 64) (hn : n < 9223372036854775808) (hv : 2 ^ b ≤ n) : Calls Tryd.prog 14 #[.int .i64 n, .int .i64 b] w fun e w' => e = .returned (.tuple #[.int .u64 0, .int .i64 2]) ∧ w = w' := by
  have hb : b < Lib.bitLen n := by
    apply Nat.lt_of_not_le; rw [bitLen_le_iff n b (by omega)]; omega
  have d1 : decide ((b : Int) < 1) = false := by simp; omega
  have d2 : decide (64 < (b : Int)) = false := by simp; omega
  have d3 : decide ((n : Int) < 0) = false := by simp
  have hc := refBits_any n w (by omega)
  generalize Lib.bitLen n = L at *
  have d4 : decide ((b : Int) < (L : Int)) = true := by simp; omega
  clear hv
  go_enter Tryd.func14, Tryd.ntmps14
  go_wp2_with (go_at_call 24; refine hc.mono ?_; rintro e w' ⟨rfl, rfl⟩)
  go_ret2
  exact ⟨rfl, rfl⟩
theorem refSmall_in (n b : Nat) (w : World) (h1 : 1 ≤ b) (h2 : b ≤ 64) (hn : n < 9223372036854775808) (hv : n < 2 ^ b) : Calls Tryd.prog 14 #[.int .i64 n, .int .i64 b] w fun e w' => e = .returned (.tuple #[.int .u64 n, .int .i64 0]) ∧ w = w' := by
  have hb : Lib.bitLen n ≤ b := by rw [bitLen_le_iff n b (by omega)]; exact hv
  have d1 : decide ((b : Int) < 1) = false := by simp; omega
  have d2 : decide (64 < (b : Int)) = false := by simp; omega
  have d3 : decide ((n : Int) < 0) = false := by simp
  have hc := refBits_any n w (by omega)
  generalize Lib.bitLen n = L at *
  have d4 : decide ((b : Int) < (L : Int)) = false := by simp; omega
  clear hv
  go_enter Tryd.func14, Tryd.ntmps14
  go_wp2_with (go_at_call 24; refine hc.mono ?_; rintro e w' ⟨rfl, rfl⟩)
  go_ret2
  exact ⟨rfl, rfl⟩
theorem refSigned_arg (v : Nat) (b : Int) (w : World) (h : b < 1 ∨ 64 < b) : Calls Tryd.prog 16 #[.int .u64 v, .int .i64 b] w fun e w' => e = .returned (.tuple #[.int .i64 0, .int .i64 1]) ∧ w = w' := by
  by_cases h1 : b < 1
  · have d1 : decide (b < 1) = true := by simpa using h1
    clear h
    go_enter Tryd.func16, Tryd.ntmps16
    go_wp2
    go_ret2
    exact ⟨rfl, rfl⟩
  · have d1 : decide (b < 1) = false := by simpa using h1
    have d2 : decide (64 < b) = true := by simp; omega
    clear h
    go_enter Tryd.func16, Tryd.ntmps16
    go_wp2
    go_ret2
    exact ⟨rfl, rfl⟩
theorem refSigned_range (v b : Nat) (w : World) (h1 : 1 ≤ b) (h2 : b ≤ 64) (hn : v < 18446744073709551616) (hv : 2 ^ b ≤ v) : Calls Tryd.prog 16 #[.int .u64 v, .int .i64 b] w fun e w' => e = .returned (.tuple #[.int .i64 0, .int .i64 2]) ∧ w = w' := by
  have hb : b < Lib.bitLen v := by
    apply Nat.lt_of_not_le; rw [bitLen_le_iff v b hn]; omega
  have d1 : decide ((b : Int) < 1) = false := by simp; omega
  have d2 : decide (64 < (b : Int)) = false := by simp; omega
  have hc := refBits_any v w hn
  generalize Lib.bitLen v = L at *
  have d4 : decide ((b : Int) < (L : Int)) = true := by simp; omega
  clear hv
  go_enter Tryd.func16, Tryd.ntmps16
  go_wp2_with (go_at_call 24; refine hc.mono ?_; rintro e w' ⟨rfl, rfl⟩)
  go_ret2
  exact ⟨rfl, rfl⟩
theorem sgn_low (v b : Nat) (h : v < 2 ^ (b - 1)) : sgn v b = v := by unfold sgn; rw [if_pos h]
theorem sgn_wrap (v : Nat) (h : v < 18446744073709551616) : wrap64 (v : Int) = sgn v 64 := by
  unfold sgn wrap64
  have e : (2 : Nat) ^ (64 - 1) = 9223372036854775808 := by decide
  have e2 : (2 : Int) ^ 64 = 18446744073709551616 := by decide
  rw [e, e2]
  split <;> omega
theorem sgn_high (v b : Nat) (hb : b ≤ 63) (h1 : 1 ≤ b) (hv : v < 2 ^ b) (h : 2 ^ (b - 1) ≤ v) : wrap64 (-(wrap64 (IntKind.u64.wrap (((2 ^ b : Nat) : Int) - (v : Int))))) = sgn v b := by
  have hp := pow_le63 b hb
  unfold sgn
  rw [if_neg (by omega)]
  have e : (2 : Int) ^ b = ((2 ^ b : Nat) : Int) := by simp
  have e2 : 2 ^ b = 2 * 2 ^ (b - 1) := by rw [← Nat.pow_succ', show (b - 1).succ = b from by omega]
  rw [e]
  generalize 2 ^ b = P at *
  generalize 2 ^ (b - 1) = Q at *
  have f1 : IntKind.u64.wrap ((P : Int) - (v : Int)) = (P : Int) - (v : Int) := IntWalk.u64_in _ (by omega)
  have f2 : wrap64 ((P : Int) - (v : Int)) = (P : Int) - (v : Int) := IntWalk.wrap64_in _ (by omega)
  have f3 : wrap64 (-((P : Int) - (v : Int))) = -((P : Int) - (v : Int)) := IntWalk.wrap64_in _ (by omega)
  rw [f1, f2, f3]; omega
theorem refSigned_low (v b : Nat) (w : World) (h1 : 1 ≤ b) (h2 : b ≤ 64) (hv : v < 2 ^ b) (hl : v < 2 ^ (b - 1) ∨ b = 64) : Calls Tryd.prog 16 #[.int .u64 v, .int .i64 b] w fun e w' => e = .returned (.tuple #[.int .i64 (sgn v b), .int .i64 0]) ∧ w = w' := by
  have hn : v < 18446744073709551616 := Nat.lt_of_lt_of_le hv (pow_le64 b h2)
  have hb : Lib.bitLen v ≤ b := by rw [bitLen_le_iff v b hn]; exact hv
  have hs : wrap64 (v : Int) = sgn v b := by
    rcases hl with h | h
    · rw [sgn_low v b h]
      have := pow_le63 (b - 1) (by omega)
      exact IntWalk.wrap64_in _ (by omega)
    · subst h; exact sgn_wrap v hn
  have Hs := Lib.hid hs
  have d1 : decide ((b : Int) < 1) = false := by simp; omega
  have d2 : decide (64 < (b : Int)) = false := by simp; omega
  have hc := refBits_any v w hn
  have hlo : Lib.bitLen v < b ∨ b = 64 := by
    rcases hl with h | h
    · left
      have := (bitLen_le_iff v (b - 1) hn).2 h
      omega
    · right; exact h
  generalize Lib.bitLen v = L at *
  have d4 : decide ((b : Int) < (L : Int)) = false := by simp; omega
  clear hv hs hl
  by_cases hL : L < b
  · have d5 : decide ((L : Int) < (b : Int)) = true := by simp; omega
    clear hlo
    go_enter Tryd.func16, Tryd.ntmps16
    go_wp2_with (go_at_call 24; refine hc.mono ?_; rintro e w' ⟨rfl, rfl⟩)
    go_ret2
    exact ⟨by rw [← Hs.out]; rfl, rfl⟩
  · have d5 : decide ((L : Int) < (b : Int)) = false := by simp; omega
    have d6 : ((b : Int) == 64) = true := by rw [beq_iff_eq]; omega
    clear hlo
    go_enter Tryd.func16, Tryd.ntmps16
    go_wp2_with (go_at_call 24; refine hc.mono ?_; rintro e w' ⟨rfl, rfl⟩)
    go_ret2
    exact ⟨by rw [← Hs.out]; rfl, rfl⟩
theorem pow_next (i b : Nat) (h : i < b) (hb : b ≤ 63) : IntKind.u64.wrap (2 * ((2 ^ i : Nat) : Int)) = ((2 ^ (i + 1) : Nat) : Int) := by
  have := pow_le63 (i + 1) (by omega)
  rw [Nat.pow_succ'] at this ⊢
  rw [show (2 * ((2 ^ i : Nat) : Int)) = ((2 * 2 ^ i : Nat) : Int) from by rw [Int.natCast_mul]; rfl]
  exact IntWalk.u64_in _ (by omega)
theorem refSigned_high (v b : Nat) (w : World) (h1 : 1 ≤ b) (h2 : b ≤ 63) (hv : v < 2 ^ b) (hh : 2 ^ (b - 1) ≤ v) : Calls Tryd.prog 16 #[.int .u64 v, .int .i64 b] w fun e w' => e = .returned (.tuple #[.int .i64 (sgn v b), .int .i64 0]) ∧ w = w' := by
  have hn : v < 18446744073709551616 := Nat.lt_of_lt_of_le hv (pow_le64 b (by omega))
  have hb : Lib.bitLen v ≤ b := by rw [bitLen_le_iff v b hn]; exact hv
  have hb2 : ¬ Lib.bitLen v ≤ b - 1 := by rw [bitLen_le_iff v (b - 1) hn]; omega
  have Hs := Lib.hid (sgn_high v b h2 h1 hv hh)
  have d1 : decide ((b : Int) < 1) = false := by simp; omega
  have d2 : decide (64 < (b : Int)) = false := by simp; omega
  have hc := refBits_any v w hn
  generalize Lib.bitLen v = L at *
  obtain rfl : L = b := by omega
  have d4 : decide ((L : Int) < (L : Int)) = false := by simp
  have d6 : ((L : Int) == 64) = false := by rw [beq_eq_false_iff_ne]; omega
  clear hv hh hb hb2
  go_enter Tryd.func16, Tryd.ntmps16
  go_wp2_with (go_at_call 24; refine hc.mono ?_; rintro e w' ⟨rfl, rfl⟩)
  go_loop [6, 7] (fun p i => ∃ k : Nat, k ≤ L ∧ i = .int .i64 k ∧ p = .int .u64 (2 ^ k : Nat)) (fun _ i => L - (intOf i).toNat)
  case atStart => exact ⟨0, Nat.zero_le _, rfl, rfl⟩
  case round =>
    obtain ⟨k, hk, rfl, rfl⟩ := hrel
    by_cases hlt : k < L
    · have hx := Lib.hid (pow_next k L hlt h2)
      generalize hP : ((2 ^ k : Nat) : Int) = P at *
      clear hP
      go_wp2
      go_round
      case rel => exact ⟨k + 1, by omega, by go_num, by rw [← hx.out]⟩
      case measure => simp [intOf]; omega
    · obtain rfl : k = L := by omega
      generalize hP : ((2 ^ k : Nat) : Int) = P at *
      clear hP
      go_wp2
      go_ret2
      exact ⟨by rw [← Hs.out]; rfl, rfl⟩

theorem refUp_arg (n k : Int) (w : World) (h : k < 0 ∨ 64 ≤ k) : Calls Tryd.prog 18 #[.int .u64 n, .int .i64 k] w fun e w' => e = .returned (.tuple #[.int .u64 0, .int .i64 1]) ∧ w = w' := by
  by_cases hk : k < 0
  · have h1 : decide (k < 0) = true := by simpa using hk
    clear h
    go_enter Tryd.func18, Tryd.ntmps18
    go_wp2
    go_ret2
    exact ⟨rfl, rfl⟩
  · have h1 : decide (k < 0) = false := by simpa using hk
    have h2 : decide (63 < k) = true := by simp; omega
    clear h
    go_enter Tryd.func18, Tryd.ntmps18
    go_wp2
    go_ret2
    exact ⟨rfl, rfl⟩
/-- The document's Up, the three ways behind its loop under one walk. -/
theorem refUp_any (n b : Nat) (w : World) (hn : n < 18446744073709551616) (hb : b < 64) (v : Int) (r : Int)
    (h : (n % 2 ^ b = 0 ∧ v = n ∧ r = 0) ∨ (n % 2 ^ b ≠ 0 ∧ (n / 2 ^ b + 1) * 2 ^ b < 18446744073709551616 ∧ v = ((n / 2 ^ b + 1) * 2 ^ b : Nat) ∧ r = 0) ∨ (n % 2 ^ b ≠ 0 ∧ (n / 2 ^ b + 1) * 2 ^ b = 18446744073709551616 ∧ v = 0 ∧ r = 2)) :
    Calls Tryd.prog 18 #[.int .u64 n, .int .i64 b] w fun e w' => e = .returned (.tuple #[.int .u64 v, .int .i64 r]) ∧ w = w' := by
  have d1 : decide ((b : Int) < 0) = false := by simp
  have d2 : decide (63 < (b : Int)) = false := by simp; omega
  have H := Lib.hid h
  clear h
  go_enter Tryd.func18, Tryd.ntmps18
  go_wp2
  go_loop [6, 7] (fun p i => ∃ k : Nat, k ≤ b ∧ i = .int .i64 k ∧ p = .int .u64 (2 ^ k : Nat)) (fun _ i => b - (intOf i).toNat)
  case atStart => exact ⟨0, Nat.zero_le _, rfl, rfl⟩
  case round =>
    obtain ⟨k, hk, rfl, rfl⟩ := hrel
    by_cases hlt : k < b
    · have hx := Lib.hid (pow_next k b hlt (by omega))
      generalize hP : ((2 ^ k : Nat) : Int) = P at *
      clear hP
      go_wp2
      go_round
      case rel => exact ⟨k + 1, by omega, by go_num, by rw [← hx.out]⟩
      case measure => simp [intOf]; omega
    · obtain rfl : k = b := by omega
      have h := H.out
      clear H
      have hp := pow_pos' k
      have hl := pow_le63 k (by omega)
      have hdm := Nat.div_add_mod n (2 ^ k)
      have hmul : (n / 2 ^ k + 1) * 2 ^ k = 2 ^ k * (n / 2 ^ k) + 2 ^ k := by rw [Nat.add_mul, Nat.mul_comm]; omega
      have hr : n % 2 ^ k < 2 ^ k := Nat.mod_lt _ hp
      rw [hmul] at h
      generalize 2 ^ k * (n / 2 ^ k) = M at *
      clear hmul
      have hrem : ((n % 2 ^ k : Nat) : Int) = (n : Int) % ((2 ^ k : Nat) : Int) := Int.natCast_emod _ _
      generalize hP : 2 ^ k = P at *
      clear hP
      rcases h with ⟨h, hv, rfl⟩ | ⟨h, h2, hv, rfl⟩ | ⟨h, h2, hv, rfl⟩
      · have hq : ((n : Int) % (P : Int) == 0) = true := by rw [beq_iff_eq, ← hrem, h]; rfl
        have Hv := Lib.hid hv
        clear hrem h hdm hv
        go_wp2
        go_ret2
        exact ⟨by rw [Hv.out]; rfl, rfl⟩
      all_goals
        have hq : ((n : Int) % (P : Int) == 0) = false := by rw [beq_eq_false_iff_ne, ← hrem]; omega
        have f1 : (n : Int) % (P : Int) = ((n % P : Nat) : Int) := hrem.symm
        rw [f1] at hq
        clear hrem
        generalize n % P = R at *
        have h2' : M + P ≤ 18446744073709551616 := by omega
        have hd1 : M + R ≤ n := by omega
        have hd2 : n ≤ M + R := by omega
      · have Hv := Lib.hid hv
        clear hdm hv
        go_wp2_with (simp only [f1])
        go_ret2
        exact ⟨by rw [Hv.out, show ((M + P : Nat) : Int) = (n : Int) + ((P : Int) - (R : Int)) from by omega]; rfl, rfl⟩
      · have Hv := Lib.hid hv
        have h3 : 18446744073709551616 ≤ M + P := by omega
        clear hdm hv h2
        go_wp2_with (simp only [f1])
        go_ret2
        exact ⟨by rw [Hv.out]; rfl, rfl⟩
end Go.Proofs.YtjdkifjbbblioaaDoor
