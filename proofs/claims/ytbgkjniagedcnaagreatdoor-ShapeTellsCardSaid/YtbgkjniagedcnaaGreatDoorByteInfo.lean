/-
  What the program knows of a byte's type.
-/
import Derived.Test.YtbgkjniagedcnaaGreatDoorProg
import Derived.WalkKit
namespace Go.Proofs.YtbgkjniagedcnaaGreatDoor
open Go Go.RowKit

theorem infoByte : (Tryz.prog.info? 5).map (fun i => (i.zero, i.size, i.bytes)) = some (some (.int .u8 0), 1, 1) := by kernel_rfl
theorem sizeByte : (Tryz.prog.info? 5).map (·.size) = some 1 := by kernel_rfl
end Go.Proofs.YtbgkjniagedcnaaGreatDoor

