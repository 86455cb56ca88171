/-
  DERIVED. GIVEN WITH THE SEED: THE CARDS: each row of YtbgebjejgbcadaaDoorRows.lean that lists a variable, with what it lists TIED to the program's text (the seventh form; the later family's looks); each row that meets fmt, with fmt's text TOLD by the authors' own Lean function (tested against real Go, not proved from fmt's source: count such statements apart). THE CARD IS WHAT COUNTS. Prove the row's statement (the work); the ties are given (YtbgebjejgbcadaaDoorTie.lean); close each card by the builder's one call (the guide's Derived/Test/ToyasCard.lean, 'card_holds'). Laid BY PROGRAM, IN A SANDBOX (cutbox-door.mjs). By AI agents, Wed Nov 11 2026. No macro, syntax, notation, axiom, sorry.
-/
import Derived.Test.YtbgebjejgbcadaaDoorRows
import GoSem.ClaimSeven
namespace Go.Proofs.YtbgebjejgbcadaaDoor
namespace Rows

/-- THE TIED CARD OF 'warrenlaw11.FillSplits'. -/
def fillSplitsCard : Claim7 := { stood := { row := fillSplitsRow, standIns := [], harness := (true, "a1c650a6ff0471cf6c8c2703b920693398cbb2aac544dc1ff55f19b3d7d17631"), looks := true }, kinds := [], alts := [], laidByText := true, laidKinds := [.handle], laidTests := true, laidLooks := .later }
def FillSplitsCardSaid : Prop := Claim7.holds Tryd.pinned (.plain (OpenSpec.ofChange fillSplitsSpec)) fillSplitsCard

/-- THE TIED CARD OF 'warrenlaw11.FillHalves'. -/
def fillHalvesCard : Claim7 := { stood := { row := fillHalvesRow, standIns := [], harness := (true, "a1c650a6ff0471cf6c8c2703b920693398cbb2aac544dc1ff55f19b3d7d17631"), looks := true }, kinds := [], alts := [], laidByText := true, laidKinds := [.handle], laidTests := true, laidLooks := .later }
def FillHalvesCardSaid : Prop := Claim7.holds Tryd.pinned (.plain (OpenSpec.ofChange fillHalvesSpec)) fillHalvesCard

/-- THE SECOND FORM's CARD OF 'warrenlaw11.FillSplits'. -/
def fillSplitsUptoCard : Claim7 := { stood := { row := fillSplitsUptoRow, standIns := [], harness := (true, "a1c650a6ff0471cf6c8c2703b920693398cbb2aac544dc1ff55f19b3d7d17631"), looks := true }, kinds := [], alts := [], laidByText := true, laidKinds := [.handle], laidTests := true, laidLooks := .later }
def FillSplitsUptoCardSaid : Prop := Claim7.holds Tryd.pinned (.plain (OpenSpec.upto fillSplitsSpec)) fillSplitsUptoCard

/-- THE SECOND FORM's CARD OF 'warrenlaw11.FillHalves'. -/
def fillHalvesUptoCard : Claim7 := { stood := { row := fillHalvesUptoRow, standIns := [], harness := (true, "a1c650a6ff0471cf6c8c2703b920693398cbb2aac544dc1ff55f19b3d7d17631"), looks := true }, kinds := [], alts := [], laidByText := true, laidKinds := [.handle], laidTests := true, laidLooks := .later }
def FillHalvesUptoCardSaid : Prop := Claim7.holds Tryd.pinned (.plain (OpenSpec.upto fillHalvesSpec)) fillHalvesUptoCard
end Rows
end Go.Proofs.YtbgebjejgbcadaaDoor
