/-
  DERIVED. GIVEN WITH THE SEED: THE CARDS: each row of YtnnifjhpnanijaaDoorRows.lean that lists a variable, with what it lists TIED to the program's text (the seventh form; the later family's looks); each row that meets fmt, with fmt's text TOLD by the authors' own Lean function (tested against real Go, not proved from fmt's source: count such statements apart). THE CARD IS WHAT COUNTS. Prove the row's statement (the work); the ties are given (YtnnifjhpnanijaaDoorTie.lean); close each card by the builder's one call (the guide's Derived/Test/ToyasCard.lean, 'card_holds'). Laid BY PROGRAM, IN A SANDBOX (cutbox-door.mjs). By AI agents, Wed Nov 11 2026. No macro, syntax, notation, axiom, sorry.
-/
import Derived.Test.YtnnifjhpnanijaaDoorRows
import GoSem.ClaimSeven
namespace Go.Proofs.YtnnifjhpnanijaaDoor
namespace Rows

/-- THE TIED CARD OF 'warrenlaw05.SheetForms'. -/
def sheetFormsCard : Claim7 := { stood := { row := sheetFormsRow, standIns := [], harness := (true, "9896a92ff71986105523970e5c260e6147a6b0c7a2f202a3fc1dfecace760262"), looks := true }, kinds := [], alts := [], laidByText := true, laidKinds := [.handle, .data], laidTests := true, laidLooks := .later }
def SheetFormsCardSaid : Prop := Claim7.holds Tryd.pinned (.plain (OpenSpec.ofChange sheetFormsSpec)) sheetFormsCard

/-- THE TIED CARD OF 'warrenlaw05.SheetBack'. -/
def sheetBackCard : Claim7 := { stood := { row := sheetBackRow, standIns := [], harness := (true, "9896a92ff71986105523970e5c260e6147a6b0c7a2f202a3fc1dfecace760262"), looks := true }, kinds := [], alts := [], laidByText := true, laidKinds := [.handle, .data], laidTests := true, laidLooks := .later }
def SheetBackCardSaid : Prop := Claim7.holds Tryd.pinned (.plain (OpenSpec.ofChange sheetBackSpec)) sheetBackCard

/-- THE TIED CARD OF 'warrenlaw05.SheetApart'. -/
def sheetApartCard : Claim7 := { stood := { row := sheetApartRow, standIns := [], harness := (true, "9896a92ff71986105523970e5c260e6147a6b0c7a2f202a3fc1dfecace760262"), looks := true }, kinds := [], alts := [], laidByText := true, laidKinds := [.handle, .data], laidTests := true, laidLooks := .later }
def SheetApartCardSaid : Prop := Claim7.holds Tryd.pinned (.plain (OpenSpec.ofChange sheetApartSpec)) sheetApartCard

/-- THE SECOND FORM's CARD OF 'warrenlaw05.SheetForms'. -/
def sheetFormsUptoCard : Claim7 := { stood := { row := sheetFormsUptoRow, standIns := [], harness := (true, "9896a92ff71986105523970e5c260e6147a6b0c7a2f202a3fc1dfecace760262"), looks := true }, kinds := [], alts := [], laidByText := true, laidKinds := [.handle, .data], laidTests := true, laidLooks := .later }
def SheetFormsUptoCardSaid : Prop := Claim7.holds Tryd.pinned (.plain (OpenSpec.upto sheetFormsSpec)) sheetFormsUptoCard

/-- THE SECOND FORM's CARD OF 'warrenlaw05.SheetBack'. -/
def sheetBackUptoCard : Claim7 := { stood := { row := sheetBackUptoRow, standIns := [], harness := (true, "9896a92ff71986105523970e5c260e6147a6b0c7a2f202a3fc1dfecace760262"), looks := true }, kinds := [], alts := [], laidByText := true, laidKinds := [.handle, .data], laidTests := true, laidLooks := .later }
def SheetBackUptoCardSaid : Prop := Claim7.holds Tryd.pinned (.plain (OpenSpec.upto sheetBackSpec)) sheetBackUptoCard

/-- THE SECOND FORM's CARD OF 'warrenlaw05.SheetApart'. -/
def sheetApartUptoCard : Claim7 := { stood := { row := sheetApartUptoRow, standIns := [], harness := (true, "9896a92ff71986105523970e5c260e6147a6b0c7a2f202a3fc1dfecace760262"), looks := true }, kinds := [], alts := [], laidByText := true, laidKinds := [.handle, .data], laidTests := true, laidLooks := .later }
def SheetApartUptoCardSaid : Prop := Claim7.holds Tryd.pinned (.plain (OpenSpec.upto sheetApartSpec)) sheetApartUptoCard
end Rows
end Go.Proofs.YtnnifjhpnanijaaDoor
