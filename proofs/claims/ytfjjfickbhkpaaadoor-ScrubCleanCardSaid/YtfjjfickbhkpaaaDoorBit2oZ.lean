/-
  bitset's Without.
  bitset's With.
-/
import Derived.Test.YtfjjfickbhkpaaaDoorBit1Z
import Derived.Test.YtfjjfickbhkpaaaDoorGsZ
namespace Go.Proofs.YtfjjfickbhkpaaaDoor
open Go Go.RowKit

/-- Without's rule. -/
def outR (f : Nat → Bool) (x : Int) (m : Nat) : Bool := f m && !decide ((m : Int) = x)
theorem outR_out (f : Nat → Bool) (x : Int) (h : x < 0 ∨ 1024 ≤ x) : sc f = sc (outR f x) := sc_ext (fun m hm => by
  have : decide ((m : Int) = x) = false := decide_eq_false (by omega)
  unfold outR; rw [this]; simp)
theorem outR_put (f : Nat → Bool) (n : Nat) (h : n < 1024) (v P R : Nat) (hv : wd f (n / 64) = v) (hP : 2 ^ (n % 64) = P) (hR : v &&& (18446744073709551615 - P) = R) :
    (sc f).setIfInBounds (n / 64) (.int .u64 (R : Nat)) = sc (outR f n) := by
  refine sc_put f _ (n / 64) R (by omega) ?_ (fun m hm hne => ?_)
  · have hp := pow_lt64 n
    rw [← hR, ← hv, ← hP]
    refine wd_of (Nat.lt_of_le_of_lt Nat.and_le_left (wd_lt f _)) (fun i hi => ?_)
    rw [Nat.testBit_and, wd_bit f _ i hi, not_bit hp i hi, Nat.testBit_two_pow]
    have e : decide (n % 64 = i) = decide (((64 * (n / 64) + i : Nat) : Int) = (n : Int)) := by
      rw [Bool.eq_iff_iff, decide_eq_true_iff, decide_eq_true_iff]; omega
    unfold outR
    rw [e]
  · have : decide ((m : Int) = (n : Int)) = false := decide_eq_false (by omega)
    unfold outR; rw [this]; simp
end Go.Proofs.YtfjjfickbhkpaaaDoor
namespace Go.Proofs.YtfjjfickbhkpaaaDoor
open Go Go.RowKit

/-- With's rule. -/
def withR (f : Nat → Bool) (x : Int) (m : Nat) : Bool := f m || decide ((m : Int) = x)
theorem withR_out (f : Nat → Bool) (x : Int) (h : x < 0 ∨ 1024 ≤ x) : sc f = sc (withR f x) := sc_ext (fun m hm => by
  have : decide ((m : Int) = x) = false := decide_eq_false (by omega)
  unfold withR; rw [this]; simp)
theorem withR_put (f : Nat → Bool) (n : Nat) (h : n < 1024) (v P R : Nat) (hv : wd f (n / 64) = v) (hP : 2 ^ (n % 64) = P) (hR : v ||| P = R) :
    (sc f).setIfInBounds (n / 64) (.int .u64 (R : Nat)) = sc (withR f n) := by
  refine sc_put f _ (n / 64) R (by omega) ?_ (fun m hm hne => ?_)
  · have hp := pow_lt64 n
    rw [← hR, ← hv, ← hP]
    refine wd_of (Nat.or_lt_two_pow (n := 64) (wd_lt f _) hp) (fun i hi => ?_)
    rw [Nat.testBit_or, wd_bit f _ i hi, Nat.testBit_two_pow]
    have e : decide (n % 64 = i) = decide (((64 * (n / 64) + i : Nat) : Int) = (n : Int)) := by
      rw [Bool.eq_iff_iff, decide_eq_true_iff, decide_eq_true_iff]; omega
    unfold withR
    rw [e]
  · have : decide ((m : Int) = (n : Int)) = false := decide_eq_false (by omega)
    unfold withR; rw [this]; simp
end Go.Proofs.YtfjjfickbhkpaaaDoor
