/-
  DERIVED. GIVEN WITH THE SEED: THE CARDS: each row of YtkokcmjpobfkkaaDoorRows.lean that lists a variable, with what it lists TIED to the program's text (the seventh form; the later family's looks); each row that meets fmt, with fmt's text TOLD by the authors' own Lean function (tested against real Go, not proved from fmt's source: count such statements apart). THE CARD IS WHAT COUNTS. Prove the row's statement (the work); the ties are given (YtkokcmjpobfkkaaDoorTie.lean); close each card by the builder's one call (the guide's Derived/Test/ToyasCard.lean, 'card_holds'). Laid BY PROGRAM, IN A SANDBOX (cutbox-door.mjs). By AI agents, Wed Nov 11 2026. No macro, syntax, notation, axiom, sorry.
-/
import Derived.Test.YtkokcmjpobfkkaaDoorRows
import GoSem.ClaimSeven
namespace Go.Proofs.YtkokcmjpobfkkaaDoor
namespace Rows

/-- THE TIED CARD OF 'warrenlaw17.BitsetTells'. -/
def bitsetTellsCard : Claim7 := { stood := { row := bitsetTellsRow, standIns := [], harness := (true, "48b3682c70342983607aa9b12ccb3edb61e50aa324ce8967487510d6766cbd81"), looks := true }, kinds := [], alts := [], laidByText := true, laidKinds := [.data, .handle], laidTests := true, laidLooks := .later }
def BitsetTellsCardSaid : Prop := Claim7.holds Tryd.pinned (.plain (OpenSpec.ofChange bitsetTellsSpec)) bitsetTellsCard

/-- THE TIED CARD OF 'warrenlaw17.BitsetTakes'. -/
def bitsetTakesCard : Claim7 := { stood := { row := bitsetTakesRow, standIns := [], harness := (true, "48b3682c70342983607aa9b12ccb3edb61e50aa324ce8967487510d6766cbd81"), looks := true }, kinds := [], alts := [], laidByText := true, laidKinds := [.data, .handle], laidTests := true, laidLooks := .later }
def BitsetTakesCardSaid : Prop := Claim7.holds Tryd.pinned (.plain (OpenSpec.ofChange bitsetTakesSpec)) bitsetTakesCard

/-- THE TIED CARD OF 'warrenlaw17.BitsetParts'. -/
def bitsetPartsCard : Claim7 := { stood := { row := bitsetPartsRow, standIns := [], harness := (true, "48b3682c70342983607aa9b12ccb3edb61e50aa324ce8967487510d6766cbd81"), looks := true }, kinds := [], alts := [], laidByText := true, laidKinds := [.data, .handle], laidTests := true, laidLooks := .later }
def BitsetPartsCardSaid : Prop := Claim7.holds Tryd.pinned (.plain (OpenSpec.ofChange bitsetPartsSpec)) bitsetPartsCard

/-- THE SECOND FORM's CARD OF 'warrenlaw17.BitsetTells'. -/
def bitsetTellsUptoCard : Claim7 := { stood := { row := bitsetTellsUptoRow, standIns := [], harness := (true, "48b3682c70342983607aa9b12ccb3edb61e50aa324ce8967487510d6766cbd81"), looks := true }, kinds := [], alts := [], laidByText := true, laidKinds := [.data, .handle], laidTests := true, laidLooks := .later }
def BitsetTellsUptoCardSaid : Prop := Claim7.holds Tryd.pinned (.plain (OpenSpec.upto bitsetTellsSpec)) bitsetTellsUptoCard

/-- THE SECOND FORM's CARD OF 'warrenlaw17.BitsetTakes'. -/
def bitsetTakesUptoCard : Claim7 := { stood := { row := bitsetTakesUptoRow, standIns := [], harness := (true, "48b3682c70342983607aa9b12ccb3edb61e50aa324ce8967487510d6766cbd81"), looks := true }, kinds := [], alts := [], laidByText := true, laidKinds := [.data, .handle], laidTests := true, laidLooks := .later }
def BitsetTakesUptoCardSaid : Prop := Claim7.holds Tryd.pinned (.plain (OpenSpec.upto bitsetTakesSpec)) bitsetTakesUptoCard

/-- THE SECOND FORM's CARD OF 'warrenlaw17.BitsetParts'. -/
def bitsetPartsUptoCard : Claim7 := { stood := { row := bitsetPartsUptoRow, standIns := [], harness := (true, "48b3682c70342983607aa9b12ccb3edb61e50aa324ce8967487510d6766cbd81"), looks := true }, kinds := [], alts := [], laidByText := true, laidKinds := [.data, .handle], laidTests := true, laidLooks := .later }
def BitsetPartsUptoCardSaid : Prop := Claim7.holds Tryd.pinned (.plain (OpenSpec.upto bitsetPartsSpec)) bitsetPartsUptoCard
end Rows
end Go.Proofs.YtkokcmjpobfkkaaDoor
