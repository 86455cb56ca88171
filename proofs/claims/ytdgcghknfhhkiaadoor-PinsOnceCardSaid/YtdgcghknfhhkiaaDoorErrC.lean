/-
  An error's value by its number, 0 for none.
-/
import Derived.Test.YtdgcghknfhhkiaaDoorNum2
namespace Go.Proofs.YtdgcghknfhhkiaaDoor
open Go Go.RowKit

/-- An error's value. -/
def errC (f : Int) : Value := if f = 0 then .nilIface else .iface 67 (.int .i64 f)
theorem errC_0 : errC 0 = .nilIface := rfl
theorem errC_1 : errC 1 = .iface 67 (.int .i64 1) := rfl
theorem errC_3 : errC 3 = .iface 67 (.int .i64 3) := rfl
theorem errC_5 : errC 5 = .iface 67 (.int .i64 5) := rfl
theorem errC_is (f : Int) : NumIs (errC f) f := by
  unfold errC
  by_cases h : f = 0
  · rw [if_pos h]; exact .inl ⟨rfl, h⟩
  · rw [if_neg h]; exact .inr rfl
end Go.Proofs.YtdgcghknfhhkiaaDoor
