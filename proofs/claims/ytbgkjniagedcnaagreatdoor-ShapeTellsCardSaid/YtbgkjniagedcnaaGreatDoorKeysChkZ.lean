/-
  keys.Check.
-/
import Derived.Test.YtbgkjniagedcnaaGreatDoorProg
import Derived.Test.YtbgkjniagedcnaaGreatDoorKeysMathZ
import Derived.WalkKit
import Derived.Lib.Hide
namespace Go.Proofs.YtbgkjniagedcnaaGreatDoor
open Go Go.RowKit

def chkV (k : ByteArray) : Value := if okK k then .nilIface else .iface 69 (.int .i64 1)
theorem check_any (k : ByteArray) (w : World) : Calls Tryz.prog 37 #[.string k] w fun e w' => e = .returned (chkV k) ∧ w = w' := by
  by_cases h1 : k.size < 1
  · have e : Hid (chkV k = .iface 69 (.int .i64 1)) := by show _ = _; unfold chkV okK; rw [if_neg (by simp; omega)]
    have d1 : decide ((k.size : Int) < 1) = true := by simp; omega
    clear h1
    generalize chkV k = V at *
    go_enter Tryz.func37, Tryz.ntmps37
    go_wp2
    go_ret
    exact ⟨by rw [e.out]; rfl, rfl⟩
  · by_cases h2 : 40 < k.size
    · have e : Hid (chkV k = .iface 69 (.int .i64 1)) := by show _ = _; unfold chkV okK; rw [if_neg (by simp; omega)]
      have d1 : decide ((k.size : Int) < 1) = false := by simp; omega
      have d2 : decide (40 < (k.size : Int)) = true := by simp; omega
      clear h1 h2
      generalize chkV k = V at *
      go_enter Tryz.func37, Tryz.ntmps37
      go_wp2
      go_ret
      exact ⟨by rw [e.out]; rfl, rfl⟩
    · have e : Hid (chkV k = .nilIface) := by show _ = _; unfold chkV okK; rw [if_pos (by simp; omega)]
      have d1 : decide ((k.size : Int) < 1) = false := by simp; omega
      have d2 : decide (40 < (k.size : Int)) = false := by simp; omega
      clear h1 h2
      generalize chkV k = V at *
      go_enter Tryz.func37, Tryz.ntmps37
      go_wp2
      go_ret
      exact ⟨by rw [e.out]; rfl, rfl⟩
end Go.Proofs.YtbgkjniagedcnaaGreatDoor
