/-
  DERIVED. GIVEN WITH THE SEED: THE CARDS: each row of YtifmepiahlodhaaGreatDoorRows.lean that lists a variable, with what it lists TIED to the program's text (the seventh form; the later family's looks); each row that meets fmt, with fmt's text TOLD by the authors' own Lean function (tested against real Go, not proved from fmt's source: count such statements apart). THE CARD IS WHAT COUNTS. Prove the row's statement (the work); the ties are given (YtifmepiahlodhaaGreatDoorTie.lean); close each card by the builder's one call (the guide's Derived/Test/ToyasCard.lean, 'card_holds'). Laid BY PROGRAM, IN A SANDBOX (cutbox-door.mjs). By AI agents, Wed Nov 11 2026. No macro, syntax, notation, axiom, sorry.
-/
import Derived.Test.YtifmepiahlodhaaGreatDoorRows
import GoSem.ClaimSeven
namespace Go.Proofs.YtifmepiahlodhaaGreatDoor
namespace Rows

/-- THE TIED CARD OF 'warrenlaw21.LoadReads'. -/
def loadReadsCard : Claim7 := { stood := { row := loadReadsRow, standIns := [], harness := (true, "cf39963e91f43d1dda6636abc2eefeb62365e5695c7d43ac76d51abb409bce73"), looks := true }, kinds := [], alts := [], laidByText := true, laidKinds := [.data, .handle, .data], laidTests := true, laidLooks := .later }
def LoadReadsCardSaid : Prop := Claim7.holds Tryz.pinned (.plain (OpenSpec.ofChange loadReadsSpec)) loadReadsCard

/-- THE TIED CARD OF 'warrenlaw21.LoadBack'. -/
def loadBackCard : Claim7 := { stood := { row := loadBackRow, standIns := [], harness := (true, "cf39963e91f43d1dda6636abc2eefeb62365e5695c7d43ac76d51abb409bce73"), looks := true }, kinds := [], alts := [], laidByText := true, laidKinds := [.data, .handle, .data], laidTests := true, laidLooks := .later }
def LoadBackCardSaid : Prop := Claim7.holds Tryz.pinned (.plain (OpenSpec.ofChange loadBackSpec)) loadBackCard

/-- THE TIED CARD OF 'warrenlaw21.LoadTurned'. -/
def loadTurnedCard : Claim7 := { stood := { row := loadTurnedRow, standIns := [], harness := (true, "cf39963e91f43d1dda6636abc2eefeb62365e5695c7d43ac76d51abb409bce73"), looks := true }, kinds := [], alts := [], laidByText := true, laidKinds := [.data, .handle, .data], laidTests := true, laidLooks := .later }
def LoadTurnedCardSaid : Prop := Claim7.holds Tryz.pinned (.plain (OpenSpec.ofChange loadTurnedSpec)) loadTurnedCard

/-- THE SECOND FORM's CARD OF 'warrenlaw21.LoadReads'. -/
def loadReadsUptoCard : Claim7 := { stood := { row := loadReadsUptoRow, standIns := [], harness := (true, "cf39963e91f43d1dda6636abc2eefeb62365e5695c7d43ac76d51abb409bce73"), looks := true }, kinds := [], alts := [], laidByText := true, laidKinds := [.data, .handle, .data], laidTests := true, laidLooks := .later }
def LoadReadsUptoCardSaid : Prop := Claim7.holds Tryz.pinned (.plain (OpenSpec.upto loadReadsSpec)) loadReadsUptoCard

/-- THE SECOND FORM's CARD OF 'warrenlaw21.LoadBack'. -/
def loadBackUptoCard : Claim7 := { stood := { row := loadBackUptoRow, standIns := [], harness := (true, "cf39963e91f43d1dda6636abc2eefeb62365e5695c7d43ac76d51abb409bce73"), looks := true }, kinds := [], alts := [], laidByText := true, laidKinds := [.data, .handle, .data], laidTests := true, laidLooks := .later }
def LoadBackUptoCardSaid : Prop := Claim7.holds Tryz.pinned (.plain (OpenSpec.upto loadBackSpec)) loadBackUptoCard

/-- THE SECOND FORM's CARD OF 'warrenlaw21.LoadTurned'. -/
def loadTurnedUptoCard : Claim7 := { stood := { row := loadTurnedUptoRow, standIns := [], harness := (true, "cf39963e91f43d1dda6636abc2eefeb62365e5695c7d43ac76d51abb409bce73"), looks := true }, kinds := [], alts := [], laidByText := true, laidKinds := [.data, .handle, .data], laidTests := true, laidLooks := .later }
def LoadTurnedUptoCardSaid : Prop := Claim7.holds Tryz.pinned (.plain (OpenSpec.upto loadTurnedSpec)) loadTurnedUptoCard
end Rows
end Go.Proofs.YtifmepiahlodhaaGreatDoor
