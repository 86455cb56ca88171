/-
  The document's sets: Set, All.
-/
import Derived.Test.YtfjjfickbhkpaaaDoorRefBZ
namespace Go.Proofs.YtfjjfickbhkpaaaDoor
open Go Go.RowKit

/-- What Set holds where c numbers are still to come. -/
def stR (f : Nat → Bool) (c m : Nat) : Bool := if c ≤ 64 * (m / 64) then f m else decide (c + m % 64 < 64 * (m / 64 + 1)) && f (c + m % 64)
theorem st_start (f : Nat → Bool) : sc (stR f 1024) = sc (fun _ => false) := sc_ext (fun m hm => by
  unfold stR; rw [if_neg (by omega), decide_eq_false (by omega)]; rfl)
theorem st_end (f : Nat → Bool) : sc (stR f 0) = sc f := sc_ext (fun m hm => by
  unfold stR; rw [if_pos (by omega)])
/-- One number more: its word twice what it was, and one more where the number is in. -/
theorem st_step (f : Nat → Bool) (i : Nat) (hi : i < 1024) : ∃ v V : Nat, wd (stR f (i + 1)) (i / 64) = v ∧ 2 * v + (f i).toNat = V ∧ V < 18446744073709551616 ∧ (sc (stR f (i + 1))).setIfInBounds (i / 64) (.int .u64 (V : Nat)) = sc (stR f i) := by
  have hV : 2 * wd (stR f (i + 1)) (i / 64) + (f i).toNat = wd (stR f i) (i / 64) := by
    have h1 : wd (stR f i) (i / 64) / 2 = wd (stR f (i + 1)) (i / 64) := by
      refine wd_of (by have := wd_lt (stR f i) (i / 64); omega) (fun t ht => ?_)
      rw [← Nat.testBit_succ]
      by_cases h : t = 63
      · subst h
        rw [bit_big (wd_lt _ _) (by omega)]
        unfold stR
        rw [if_neg (by omega), decide_eq_false (by omega)]; rfl
      · rw [wd_bit _ _ _ (by omega)]
        have ea : (64 * (i / 64) + (t + 1)) / 64 = i / 64 := by omega
        have eb : (64 * (i / 64) + (t + 1)) % 64 = t + 1 := by omega
        have ec : (64 * (i / 64) + t) / 64 = i / 64 := by omega
        have ed : (64 * (i / 64) + t) % 64 = t := by omega
        unfold stR
        rw [ea, eb, ec, ed, if_neg (show ¬ i + 1 ≤ 64 * (i / 64) by omega)]
        by_cases h2 : i ≤ 64 * (i / 64)
        · rw [if_pos h2, decide_eq_true (by omega), Bool.true_and]
          congr 1; omega
        · rw [if_neg h2, show i + (t + 1) = i + 1 + t by omega]
    have h2 : wd (stR f i) (i / 64) % 2 = (f i).toNat := by
      have hb := wd_bit (stR f i) (i / 64) 0 (by omega)
      have e : stR f i (64 * (i / 64) + 0) = f i := by
        unfold stR
        by_cases h2 : i ≤ 64 * (i / 64)
        · rw [if_pos (by omega)]; congr 1; omega
        · rw [if_neg (by omega), decide_eq_true (by omega), Bool.true_and]; congr 1; omega
      rw [e, Nat.testBit_zero] at hb
      rw [← hb]
      rcases Nat.mod_two_eq_zero_or_one (wd (stR f i) (i / 64)) with h | h <;> rw [h] <;> rfl
    omega
  refine ⟨_, _, rfl, hV, wd_lt _ _, sc_put _ _ _ _ (by omega) rfl (fun m hm hne => ?_)⟩
  unfold stR
  by_cases h : i + 1 ≤ 64 * (m / 64)
  · rw [if_pos h, if_pos (by omega)]
  · rw [if_neg h, if_neg (by omega), decide_eq_false (by omega), decide_eq_false (by omega)]; rfl
theorem eI_no (f : Nat → Bool) (k : Nat) (h : f k = false) : eI f (k + 1) = eI f k := by
  rw [eI, eI, els, h]; simp
theorem eI_yes (f : Nat → Bool) (k : Nat) (h : f k = true) : eI f (k + 1) = eI f k ++ [(k : Int)] := by
  rw [eI, eI, els, h]; simp
end Go.Proofs.YtfjjfickbhkpaaaDoor
