/-
  DERIVED. GIVEN WITH THE SEED: THE CARDS: each row of YtdgladhfibfdlaaGreatDoorRows.lean that lists a variable, with what it lists TIED to the program's text (the seventh form; the later family's looks); each row that meets fmt, with fmt's text TOLD by the authors' own Lean function (tested against real Go, not proved from fmt's source: count such statements apart). THE CARD IS WHAT COUNTS. Prove the row's statement (the work); the ties are given (YtdgladhfibfdlaaGreatDoorTie.lean); close each card by the builder's one call (the guide's Derived/Test/ToyasCard.lean, 'card_holds'). Laid BY PROGRAM, IN A SANDBOX (cutbox-door.mjs). By AI agents, Wed Nov 11 2026. No macro, syntax, notation, axiom, sorry.
-/
import Derived.Test.YtdgladhfibfdlaaGreatDoorRows
import GoSem.ClaimSeven
namespace Go.Proofs.YtdgladhfibfdlaaGreatDoor
namespace Rows

/-- THE TIED CARD OF 'warrenlaw20.PlanLays'. -/
def planLaysCard : Claim7 := { stood := { row := planLaysRow, standIns := [], harness := (true, "12533425b16c575b9f8870d9dfa91f0e7f5fa9e7d4a2522390fc494d6830eb14"), looks := true }, kinds := [], alts := [], laidByText := true, laidKinds := [.data, .handle, .data], laidTests := true, laidLooks := .later }
def PlanLaysCardSaid : Prop := Claim7.holds Tryz.pinned (.plain (OpenSpec.ofChange planLaysSpec)) planLaysCard

/-- THE TIED CARD OF 'warrenlaw20.PlanShares'. -/
def planSharesCard : Claim7 := { stood := { row := planSharesRow, standIns := [], harness := (true, "12533425b16c575b9f8870d9dfa91f0e7f5fa9e7d4a2522390fc494d6830eb14"), looks := true }, kinds := [], alts := [], laidByText := true, laidKinds := [.data, .handle, .data], laidTests := true, laidLooks := .later }
def PlanSharesCardSaid : Prop := Claim7.holds Tryz.pinned (.plain (OpenSpec.ofChange planSharesSpec)) planSharesCard

/-- THE TIED CARD OF 'warrenlaw20.PlanFew'. -/
def planFewCard : Claim7 := { stood := { row := planFewRow, standIns := [], harness := (true, "12533425b16c575b9f8870d9dfa91f0e7f5fa9e7d4a2522390fc494d6830eb14"), looks := true }, kinds := [], alts := [], laidByText := true, laidKinds := [.data, .handle, .data], laidTests := true, laidLooks := .later }
def PlanFewCardSaid : Prop := Claim7.holds Tryz.pinned (.plain (OpenSpec.ofChange planFewSpec)) planFewCard

/-- THE TIED CARD OF 'warrenlaw21.LoadReads'. -/
def loadReadsCard : Claim7 := { stood := { row := loadReadsRow, standIns := [], harness := (true, "12533425b16c575b9f8870d9dfa91f0e7f5fa9e7d4a2522390fc494d6830eb14"), looks := true }, kinds := [], alts := [], laidByText := true, laidKinds := [.data, .handle, .data], laidTests := true, laidLooks := .later }
def LoadReadsCardSaid : Prop := Claim7.holds Tryz.pinned (.plain (OpenSpec.ofChange loadReadsSpec)) loadReadsCard

/-- THE TIED CARD OF 'warrenlaw21.LoadBack'. -/
def loadBackCard : Claim7 := { stood := { row := loadBackRow, standIns := [], harness := (true, "12533425b16c575b9f8870d9dfa91f0e7f5fa9e7d4a2522390fc494d6830eb14"), looks := true }, kinds := [], alts := [], laidByText := true, laidKinds := [.data, .handle, .data], laidTests := true, laidLooks := .later }
def LoadBackCardSaid : Prop := Claim7.holds Tryz.pinned (.plain (OpenSpec.ofChange loadBackSpec)) loadBackCard

/-- THE TIED CARD OF 'warrenlaw21.LoadTurned'. -/
def loadTurnedCard : Claim7 := { stood := { row := loadTurnedRow, standIns := [], harness := (true, "12533425b16c575b9f8870d9dfa91f0e7f5fa9e7d4a2522390fc494d6830eb14"), looks := true }, kinds := [], alts := [], laidByText := true, laidKinds := [.data, .handle, .data], laidTests := true, laidLooks := .later }
def LoadTurnedCardSaid : Prop := Claim7.holds Tryz.pinned (.plain (OpenSpec.ofChange loadTurnedSpec)) loadTurnedCard

/-- THE SECOND FORM's CARD OF 'warrenlaw20.PlanLays'. -/
def planLaysUptoCard : Claim7 := { stood := { row := planLaysUptoRow, standIns := [], harness := (true, "12533425b16c575b9f8870d9dfa91f0e7f5fa9e7d4a2522390fc494d6830eb14"), looks := true }, kinds := [], alts := [], laidByText := true, laidKinds := [.data, .handle, .data], laidTests := true, laidLooks := .later }
def PlanLaysUptoCardSaid : Prop := Claim7.holds Tryz.pinned (.plain (OpenSpec.upto planLaysSpec)) planLaysUptoCard

/-- THE SECOND FORM's CARD OF 'warrenlaw20.PlanShares'. -/
def planSharesUptoCard : Claim7 := { stood := { row := planSharesUptoRow, standIns := [], harness := (true, "12533425b16c575b9f8870d9dfa91f0e7f5fa9e7d4a2522390fc494d6830eb14"), looks := true }, kinds := [], alts := [], laidByText := true, laidKinds := [.data, .handle, .data], laidTests := true, laidLooks := .later }
def PlanSharesUptoCardSaid : Prop := Claim7.holds Tryz.pinned (.plain (OpenSpec.upto planSharesSpec)) planSharesUptoCard

/-- THE SECOND FORM's CARD OF 'warrenlaw20.PlanFew'. -/
def planFewUptoCard : Claim7 := { stood := { row := planFewUptoRow, standIns := [], harness := (true, "12533425b16c575b9f8870d9dfa91f0e7f5fa9e7d4a2522390fc494d6830eb14"), looks := true }, kinds := [], alts := [], laidByText := true, laidKinds := [.data, .handle, .data], laidTests := true, laidLooks := .later }
def PlanFewUptoCardSaid : Prop := Claim7.holds Tryz.pinned (.plain (OpenSpec.upto planFewSpec)) planFewUptoCard

/-- THE SECOND FORM's CARD OF 'warrenlaw21.LoadReads'. -/
def loadReadsUptoCard : Claim7 := { stood := { row := loadReadsUptoRow, standIns := [], harness := (true, "12533425b16c575b9f8870d9dfa91f0e7f5fa9e7d4a2522390fc494d6830eb14"), looks := true }, kinds := [], alts := [], laidByText := true, laidKinds := [.data, .handle, .data], laidTests := true, laidLooks := .later }
def LoadReadsUptoCardSaid : Prop := Claim7.holds Tryz.pinned (.plain (OpenSpec.upto loadReadsSpec)) loadReadsUptoCard

/-- THE SECOND FORM's CARD OF 'warrenlaw21.LoadBack'. -/
def loadBackUptoCard : Claim7 := { stood := { row := loadBackUptoRow, standIns := [], harness := (true, "12533425b16c575b9f8870d9dfa91f0e7f5fa9e7d4a2522390fc494d6830eb14"), looks := true }, kinds := [], alts := [], laidByText := true, laidKinds := [.data, .handle, .data], laidTests := true, laidLooks := .later }
def LoadBackUptoCardSaid : Prop := Claim7.holds Tryz.pinned (.plain (OpenSpec.upto loadBackSpec)) loadBackUptoCard

/-- THE SECOND FORM's CARD OF 'warrenlaw21.LoadTurned'. -/
def loadTurnedUptoCard : Claim7 := { stood := { row := loadTurnedUptoRow, standIns := [], harness := (true, "12533425b16c575b9f8870d9dfa91f0e7f5fa9e7d4a2522390fc494d6830eb14"), looks := true }, kinds := [], alts := [], laidByText := true, laidKinds := [.data, .handle, .data], laidTests := true, laidLooks := .later }
def LoadTurnedUptoCardSaid : Prop := Claim7.holds Tryz.pinned (.plain (OpenSpec.upto loadTurnedSpec)) loadTurnedUptoCard
end Rows
end Go.Proofs.YtdgladhfibfdlaaGreatDoor
