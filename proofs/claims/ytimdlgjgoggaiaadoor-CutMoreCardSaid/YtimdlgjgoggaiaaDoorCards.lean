/-
  DERIVED. GIVEN WITH THE SEED: THE CARDS: each row of YtimdlgjgoggaiaaDoorRows.lean that lists a variable, with what it lists TIED to the program's text (the seventh form; the later family's looks); each row that meets fmt, with fmt's text TOLD by the authors' own Lean function (tested against real Go, not proved from fmt's source: count such statements apart). THE CARD IS WHAT COUNTS. Prove the row's statement (the work); the ties are given (YtimdlgjgoggaiaaDoorTie.lean); close each card by the builder's one call (the guide's Derived/Test/ToyasCard.lean, 'card_holds'). Laid BY PROGRAM, IN A SANDBOX (cutbox-door.mjs). By AI agents, Wed Nov 11 2026. No macro, syntax, notation, axiom, sorry.
-/
import Derived.Test.YtimdlgjgoggaiaaDoorRows
import GoSem.ClaimSeven
namespace Go.Proofs.YtimdlgjgoggaiaaDoor
namespace Rows

/-- THE TIED CARD OF 'warrenlaw13.CutTells'. -/
def cutTellsCard : Claim7 := { stood := { row := cutTellsRow, standIns := [], harness := (true, "f5b1547b8f7fea3b387737c972ce569350b87c48422eaa85f5d33c0adedef8a2"), looks := true }, kinds := [], alts := [], laidByText := true, laidKinds := [.handle], laidTests := true, laidLooks := .later }
def CutTellsCardSaid : Prop := Claim7.holds Tryd.pinned (.plain (OpenSpec.ofChange cutTellsSpec)) cutTellsCard

/-- THE TIED CARD OF 'warrenlaw13.CutParts'. -/
def cutPartsCard : Claim7 := { stood := { row := cutPartsRow, standIns := [], harness := (true, "f5b1547b8f7fea3b387737c972ce569350b87c48422eaa85f5d33c0adedef8a2"), looks := true }, kinds := [], alts := [], laidByText := true, laidKinds := [.handle], laidTests := true, laidLooks := .later }
def CutPartsCardSaid : Prop := Claim7.holds Tryd.pinned (.plain (OpenSpec.ofChange cutPartsSpec)) cutPartsCard

/-- THE TIED CARD OF 'warrenlaw13.CutMore'. -/
def cutMoreCard : Claim7 := { stood := { row := cutMoreRow, standIns := [], harness := (true, "f5b1547b8f7fea3b387737c972ce569350b87c48422eaa85f5d33c0adedef8a2"), looks := true }, kinds := [], alts := [], laidByText := true, laidKinds := [.handle], laidTests := true, laidLooks := .later }
def CutMoreCardSaid : Prop := Claim7.holds Tryd.pinned (.plain (OpenSpec.ofChange cutMoreSpec)) cutMoreCard

/-- THE SECOND FORM's CARD OF 'warrenlaw13.CutTells'. -/
def cutTellsUptoCard : Claim7 := { stood := { row := cutTellsUptoRow, standIns := [], harness := (true, "f5b1547b8f7fea3b387737c972ce569350b87c48422eaa85f5d33c0adedef8a2"), looks := true }, kinds := [], alts := [], laidByText := true, laidKinds := [.handle], laidTests := true, laidLooks := .later }
def CutTellsUptoCardSaid : Prop := Claim7.holds Tryd.pinned (.plain (OpenSpec.upto cutTellsSpec)) cutTellsUptoCard

/-- THE SECOND FORM's CARD OF 'warrenlaw13.CutParts'. -/
def cutPartsUptoCard : Claim7 := { stood := { row := cutPartsUptoRow, standIns := [], harness := (true, "f5b1547b8f7fea3b387737c972ce569350b87c48422eaa85f5d33c0adedef8a2"), looks := true }, kinds := [], alts := [], laidByText := true, laidKinds := [.handle], laidTests := true, laidLooks := .later }
def CutPartsUptoCardSaid : Prop := Claim7.holds Tryd.pinned (.plain (OpenSpec.upto cutPartsSpec)) cutPartsUptoCard

/-- THE SECOND FORM's CARD OF 'warrenlaw13.CutMore'. -/
def cutMoreUptoCard : Claim7 := { stood := { row := cutMoreUptoRow, standIns := [], harness := (true, "f5b1547b8f7fea3b387737c972ce569350b87c48422eaa85f5d33c0adedef8a2"), looks := true }, kinds := [], alts := [], laidByText := true, laidKinds := [.handle], laidTests := true, laidLooks := .later }
def CutMoreUptoCardSaid : Prop := Claim7.holds Tryd.pinned (.plain (OpenSpec.upto cutMoreSpec)) cutMoreUptoCard
end Rows
end Go.Proofs.YtimdlgjgoggaiaaDoor
