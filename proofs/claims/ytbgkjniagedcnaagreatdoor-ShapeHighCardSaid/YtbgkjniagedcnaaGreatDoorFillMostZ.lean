/-
  fill's Most.
-/
import Derived.Test.YtbgkjniagedcnaaGreatDoorFill1Z
namespace Go.Proofs.YtbgkjniagedcnaaGreatDoor
open Go Go.RowKit

/-- What Most answers. -/
def moN (x : Int) : Int := if x < 0 ∨ 1073741824 < x then 0 else x / 126 + 1
def moE (x : Int) : Int := if x < 0 ∨ 1073741824 < x then 1 else 0
theorem most_any (x : Int) (w : World) : Calls Tryz.prog 26 #[.int .i64 x] w fun e w' => e = .returned (.tuple #[.int .i64 (moN x), errC (moE x)]) ∧ w = w' := by
  unfold moN moE
  by_cases h2 : x < 0
  · have e2 : decide (x < 0) = true := decide_eq_true h2
    rw [if_pos (.inl h2), if_pos (.inl h2), errC_1]
    go_enter Tryz.func26, Tryz.ntmps26
    go_wp2
    go_ret2
    exact ⟨rfl, rfl⟩
  · have e2 : decide (x < 0) = false := decide_eq_false h2
    by_cases h3 : 1073741824 < x
    · have e3 : decide (1073741824 < x) = true := decide_eq_true h3
      rw [if_pos (.inr h3), if_pos (.inr h3), errC_1]
      go_enter Tryz.func26, Tryz.ntmps26
      go_wp2
      go_ret2
      exact ⟨rfl, rfl⟩
    · have e3 : decide (1073741824 < x) = false := decide_eq_false h3
      rw [if_neg (by omega), if_neg (by omega), errC_0]
      obtain ⟨X, rfl⟩ := Int.eq_ofNat_of_zero_le (show 0 ≤ x by omega)
      obtain ⟨Y, hY⟩ : ∃ Y, Y = X / 126 := ⟨_, rfl⟩
      have q1 : (X : Int).tdiv 126 = (Y : Int) := by rw [Int.tdiv_eq_ediv_of_nonneg (by omega)]; omega
      have q1' : (X : Int) / 126 = (Y : Int) := by omega
      have q2 : IntKind.i64.wrap (Y : Int) = (Y : Int) := by rw [IntKind.wrap_i64]; omega
      have q3 : Y ≤ 8521760 := by omega
      rw [q1']
      clear hY
      go_enter Tryz.func26, Tryz.ntmps26
      go_wp2
      go_ret2
      exact ⟨rfl, rfl⟩
end Go.Proofs.YtbgkjniagedcnaaGreatDoor
