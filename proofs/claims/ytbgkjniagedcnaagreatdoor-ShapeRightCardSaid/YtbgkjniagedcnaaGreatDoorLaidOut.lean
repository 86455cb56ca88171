/-
  The program's layout, checked once.
-/
import Derived.Test.YtbgkjniagedcnaaGreatDoorProg
import Derived.Below
import Derived.Deep.Grids
import Derived.Deep.Slices
import Derived.OpenShut
import Derived.ProofKit
namespace Go.Proofs.YtbgkjniagedcnaaGreatDoor
open Go.ChangeShapes Go.WideShapes Go.RowKit

theorem laidOut : laidOutB Tryz.prog = true := by kernel_rfl
end Go.Proofs.YtbgkjniagedcnaaGreatDoor

