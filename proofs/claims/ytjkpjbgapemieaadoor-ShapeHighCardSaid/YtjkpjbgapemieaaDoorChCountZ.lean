/-
  chain's Count.
-/
import Derived.Test.YtjkpjbgapemieaaDoorProg
import Derived.Test.YtjkpjbgapemieaaDoorChainMathZ
import Derived.WalkKit
import Derived.Lib.Hide
namespace Go.Proofs.YtjkpjbgapemieaaDoor
open Go Go.RowKit

theorem count_any (x : Int) (w : World) (h1 : -9223372036854775808 ≤ x) (h2 : x ≤ 9223372036854775807) : Calls Tryd.prog 32 #[.int .i64 x] w fun e w' => e = .returned (.int .i64 (cntS x)) ∧ w = w' := by
  by_cases h : x < 1
  · have d1 : decide (x < 1) = true := decide_eq_true h
    have e : cntS x = 0 := by unfold cntS; rw [if_pos h]
    rw [e]
    clear e
    go_enter Tryd.func32, Tryd.ntmps32
    go_wp2
    go_ret
    exact ⟨rfl, rfl⟩
  · have d1 : decide (x < 1) = false := decide_eq_false h
    have e : Hid (cntS x = (x - 1).tdiv 502 + 1) := by
      show _ = _
      unfold cntS; rw [if_neg h, Int.tdiv_eq_ediv_of_nonneg (by omega)]
    have b1 : 0 ≤ (x - 1).tdiv 502 := by rw [Int.tdiv_eq_ediv_of_nonneg (by omega)]; omega
    have b2 : (x - 1).tdiv 502 ≤ 9223372036854775806 := by rw [Int.tdiv_eq_ediv_of_nonneg (by omega)]; omega
    generalize hq : (x - 1).tdiv 502 = q at *
    go_enter Tryd.func32, Tryd.ntmps32
    go_wp2
    go_ret
    exact ⟨by rw [e.out]; rfl, rfl⟩
end Go.Proofs.YtjkpjbgapemieaaDoor
