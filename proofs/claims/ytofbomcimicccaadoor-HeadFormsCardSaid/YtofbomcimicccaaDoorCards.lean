/-
  DERIVED. GIVEN WITH THE SEED: THE CARDS: each row of YtofbomcimicccaaDoorRows.lean that lists a variable, with what it lists TIED to the program's text (the seventh form; the later family's looks); each row that meets fmt, with fmt's text TOLD by the authors' own Lean function (tested against real Go, not proved from fmt's source: count such statements apart). THE CARD IS WHAT COUNTS. Prove the row's statement (the work); the ties are given (YtofbomcimicccaaDoorTie.lean); close each card by the builder's one call (the guide's Derived/Test/ToyasCard.lean, 'card_holds'). Laid BY PROGRAM, IN A SANDBOX (cutbox-door.mjs). By AI agents, Wed Nov 11 2026. No macro, syntax, notation, axiom, sorry.
-/
import Derived.Test.YtofbomcimicccaaDoorRows
import GoSem.ClaimSeven
namespace Go.Proofs.YtofbomcimicccaaDoor
namespace Rows

/-- THE TIED CARD OF 'warrenlaw19.HeadForms'. -/
def headFormsCard : Claim7 := { stood := { row := headFormsRow, standIns := [], harness := (true, "82d368c026d955e8cfc7ff1b10e8ebbbd11a4e7691564358926d13f65a85d54f"), looks := true }, kinds := [], alts := [], laidByText := true, laidKinds := [.handle, .data, .data], laidTests := true, laidLooks := .later }
def HeadFormsCardSaid : Prop := Claim7.holds Tryd.pinned (.plain (OpenSpec.ofChange headFormsSpec)) headFormsCard

/-- THE TIED CARD OF 'warrenlaw19.HeadNewest'. -/
def headNewestCard : Claim7 := { stood := { row := headNewestRow, standIns := [], harness := (true, "82d368c026d955e8cfc7ff1b10e8ebbbd11a4e7691564358926d13f65a85d54f"), looks := true }, kinds := [], alts := [], laidByText := true, laidKinds := [.handle, .data, .data], laidTests := true, laidLooks := .later }
def HeadNewestCardSaid : Prop := Claim7.holds Tryd.pinned (.plain (OpenSpec.ofChange headNewestSpec)) headNewestCard

/-- THE TIED CARD OF 'warrenlaw19.HeadAlone'. -/
def headAloneCard : Claim7 := { stood := { row := headAloneRow, standIns := [], harness := (true, "82d368c026d955e8cfc7ff1b10e8ebbbd11a4e7691564358926d13f65a85d54f"), looks := true }, kinds := [], alts := [], laidByText := true, laidKinds := [.handle, .data, .data], laidTests := true, laidLooks := .later }
def HeadAloneCardSaid : Prop := Claim7.holds Tryd.pinned (.plain (OpenSpec.ofChange headAloneSpec)) headAloneCard

/-- THE SECOND FORM's CARD OF 'warrenlaw19.HeadForms'. -/
def headFormsUptoCard : Claim7 := { stood := { row := headFormsUptoRow, standIns := [], harness := (true, "82d368c026d955e8cfc7ff1b10e8ebbbd11a4e7691564358926d13f65a85d54f"), looks := true }, kinds := [], alts := [], laidByText := true, laidKinds := [.handle, .data, .data], laidTests := true, laidLooks := .later }
def HeadFormsUptoCardSaid : Prop := Claim7.holds Tryd.pinned (.plain (OpenSpec.upto headFormsSpec)) headFormsUptoCard

/-- THE SECOND FORM's CARD OF 'warrenlaw19.HeadNewest'. -/
def headNewestUptoCard : Claim7 := { stood := { row := headNewestUptoRow, standIns := [], harness := (true, "82d368c026d955e8cfc7ff1b10e8ebbbd11a4e7691564358926d13f65a85d54f"), looks := true }, kinds := [], alts := [], laidByText := true, laidKinds := [.handle, .data, .data], laidTests := true, laidLooks := .later }
def HeadNewestUptoCardSaid : Prop := Claim7.holds Tryd.pinned (.plain (OpenSpec.upto headNewestSpec)) headNewestUptoCard

/-- THE SECOND FORM's CARD OF 'warrenlaw19.HeadAlone'. -/
def headAloneUptoCard : Claim7 := { stood := { row := headAloneUptoRow, standIns := [], harness := (true, "82d368c026d955e8cfc7ff1b10e8ebbbd11a4e7691564358926d13f65a85d54f"), looks := true }, kinds := [], alts := [], laidByText := true, laidKinds := [.handle, .data, .data], laidTests := true, laidLooks := .later }
def HeadAloneUptoCardSaid : Prop := Claim7.holds Tryd.pinned (.plain (OpenSpec.upto headAloneSpec)) headAloneUptoCard
end Rows
end Go.Proofs.YtofbomcimicccaaDoor
