/-
  The program's layout, checked once.
-/
import Derived.Test.YtggibbgohhpfpaaDoorProg
import Derived.Below
import Derived.Deep.Grids
import Derived.Deep.Slices
import Derived.OpenShut
import Derived.ProofKit
namespace Go.Proofs.YtggibbgohhpfpaaDoor
open Go.ChangeShapes Go.WideShapes Go.RowKit

theorem laidOut : laidOutB Tryd.prog = true := by kernel_rfl
end Go.Proofs.YtggibbgohhpfpaaDoor

