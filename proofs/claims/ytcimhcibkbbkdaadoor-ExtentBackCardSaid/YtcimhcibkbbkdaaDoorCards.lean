/-
  DERIVED. GIVEN WITH THE SEED: THE CARDS: each row of YtcimhcibkbbkdaaDoorRows.lean that lists a variable, with what it lists TIED to the program's text (the seventh form; the later family's looks); each row that meets fmt, with fmt's text TOLD by the authors' own Lean function (tested against real Go, not proved from fmt's source: count such statements apart). THE CARD IS WHAT COUNTS. Prove the row's statement (the work); the ties are given (YtcimhcibkbbkdaaDoorTie.lean); close each card by the builder's one call (the guide's Derived/Test/ToyasCard.lean, 'card_holds'). Laid BY PROGRAM, IN A SANDBOX (cutbox-door.mjs). By AI agents, Wed Nov 11 2026. No macro, syntax, notation, axiom, sorry.
-/
import Derived.Test.YtcimhcibkbbkdaaDoorRows
import GoSem.ClaimSeven
namespace Go.Proofs.YtcimhcibkbbkdaaDoor
namespace Rows

/-- THE TIED CARD OF 'warrenlaw16.ExtentTells'. -/
def extentTellsCard : Claim7 := { stood := { row := extentTellsRow, standIns := [], harness := (true, "1c91cea17f5d181337dff7e138eff29d58dd5177c11f534b479c491b4777784e"), looks := true }, kinds := [], alts := [], laidByText := true, laidKinds := [.handle], laidTests := true, laidLooks := .later }
def ExtentTellsCardSaid : Prop := Claim7.holds Tryd.pinned (.plain (OpenSpec.ofChange extentTellsSpec)) extentTellsCard

/-- THE TIED CARD OF 'warrenlaw16.ExtentBack'. -/
def extentBackCard : Claim7 := { stood := { row := extentBackRow, standIns := [], harness := (true, "1c91cea17f5d181337dff7e138eff29d58dd5177c11f534b479c491b4777784e"), looks := true }, kinds := [], alts := [], laidByText := true, laidKinds := [.handle], laidTests := true, laidLooks := .later }
def ExtentBackCardSaid : Prop := Claim7.holds Tryd.pinned (.plain (OpenSpec.ofChange extentBackSpec)) extentBackCard

/-- THE TIED CARD OF 'warrenlaw16.ExtentApart'. -/
def extentApartCard : Claim7 := { stood := { row := extentApartRow, standIns := [], harness := (true, "1c91cea17f5d181337dff7e138eff29d58dd5177c11f534b479c491b4777784e"), looks := true }, kinds := [], alts := [], laidByText := true, laidKinds := [.handle], laidTests := true, laidLooks := .later }
def ExtentApartCardSaid : Prop := Claim7.holds Tryd.pinned (.plain (OpenSpec.ofChange extentApartSpec)) extentApartCard

/-- THE SECOND FORM's CARD OF 'warrenlaw16.ExtentTells'. -/
def extentTellsUptoCard : Claim7 := { stood := { row := extentTellsUptoRow, standIns := [], harness := (true, "1c91cea17f5d181337dff7e138eff29d58dd5177c11f534b479c491b4777784e"), looks := true }, kinds := [], alts := [], laidByText := true, laidKinds := [.handle], laidTests := true, laidLooks := .later }
def ExtentTellsUptoCardSaid : Prop := Claim7.holds Tryd.pinned (.plain (OpenSpec.upto extentTellsSpec)) extentTellsUptoCard

/-- THE SECOND FORM's CARD OF 'warrenlaw16.ExtentBack'. -/
def extentBackUptoCard : Claim7 := { stood := { row := extentBackUptoRow, standIns := [], harness := (true, "1c91cea17f5d181337dff7e138eff29d58dd5177c11f534b479c491b4777784e"), looks := true }, kinds := [], alts := [], laidByText := true, laidKinds := [.handle], laidTests := true, laidLooks := .later }
def ExtentBackUptoCardSaid : Prop := Claim7.holds Tryd.pinned (.plain (OpenSpec.upto extentBackSpec)) extentBackUptoCard

/-- THE SECOND FORM's CARD OF 'warrenlaw16.ExtentApart'. -/
def extentApartUptoCard : Claim7 := { stood := { row := extentApartUptoRow, standIns := [], harness := (true, "1c91cea17f5d181337dff7e138eff29d58dd5177c11f534b479c491b4777784e"), looks := true }, kinds := [], alts := [], laidByText := true, laidKinds := [.handle], laidTests := true, laidLooks := .later }
def ExtentApartUptoCardSaid : Prop := Claim7.holds Tryd.pinned (.plain (OpenSpec.upto extentApartSpec)) extentApartUptoCard
end Rows
end Go.Proofs.YtcimhcibkbbkdaaDoor
