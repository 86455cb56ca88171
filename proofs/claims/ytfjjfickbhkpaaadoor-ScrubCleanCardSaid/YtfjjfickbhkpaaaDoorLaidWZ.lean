/-
  What the listed package-level variable crc.worth holds: out of the rows' condition, the cells that the walks read; and a world that meets it.
-/
import Derived.Test.YtfjjfickbhkpaaaDoorRows
import Derived.Test.YtfjjfickbhkpaaaDoorCrc0Z
import Derived.Lib.LaidTab
import Derived.LaidLaws
import Derived.LaidHandle
import Derived.ChangeBears2
namespace Go.Proofs.YtfjjfickbhkpaaaDoor
open Go.RowKit

theorem laidOwn : ownKnob Tryd.prog.godebug = none := by kernel_rfl
abbrev laidList {H : Type} : List (String × DataW H) := [("warren/crc.worth", Rows.laid_warren_crc_worth)]
theorem laid_parts {W : World} (h : laidMetH Tryd.prog laidList W) : laidMet Tryd.prog [("warren/crc.worth", Rows.laid_warren_crc_worth)] W := h
theorem worths_eq : (worths.map fun n : Nat => (n : Int)) = [0, 274646895, 549293790, 820201905, 1098587580, 1361435347, 1640403810, 1905808397, 2197175160, 2460548119, 2722870694, 2987750089, 3280807620, 3553878443, 3811616794, 4084100981] := by decide +kernel
theorem laidTabIs {H : Type} : (Rows.laid_warren_crc_worth : DataW H) = Lib.tabData .u32 (worths.map fun n : Nat => (n : Int)) := by rw [worths_eq]; rfl
theorem worth_of_laid {W : World} (h : laidMetH Tryd.prog laidList W) : WorthIn W := by
  have h1 := laid_parts h
  rw [laidTabIs] at h1
  have ht := Lib.tabIs_of_head (P := Tryd.prog) (g := 0) (t := 66) (e := 51) (n := 16) (by kernel_rfl) (by kernel_rfl) Tryd.underlying66 Tryd.underlying51 (by kernel_rfl) (by kernel_rfl) h1
  intro j hj
  have := ht.cell (g := 0) (by kernel_rfl) j (by simpa [worths] using hj)
  rw [this]
  congr 2
  have hj' : j < worths.length := by simpa [worths] using hj
  simp [List.getD, hj']

/-- A world that meets the condition: the settled one, the variables' cells laid. -/
noncomputable def laidWorld (os : Os) : World :=
  let w0 := World.holding Tryd.prog os ⟨#[], #[], []⟩
  { w0 with heap := w0.heap.modify 0 fun
      | .cells _ t frozen => .cells (worths.map fun n : Nat => Value.int .u32 (n : Int)).toArray t frozen
      | o => o }
theorem laidWorld_met (os : Os) (args : Array Value) : laidMetH Tryd.prog laidList ((laidWorld os).forCall (fun _ _ => 0) ⟨#[], args, []⟩).memory :=
  laidMet_of_run' 8 (by kernel_rfl) (by kernel_rfl)
end Go.Proofs.YtfjjfickbhkpaaaDoor
