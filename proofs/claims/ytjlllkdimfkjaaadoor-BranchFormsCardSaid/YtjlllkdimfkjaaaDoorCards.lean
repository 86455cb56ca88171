/-
  DERIVED. GIVEN WITH THE SEED: THE CARDS: each row of YtjlllkdimfkjaaaDoorRows.lean that lists a variable, with what it lists TIED to the program's text (the seventh form; the later family's looks); each row that meets fmt, with fmt's text TOLD by the authors' own Lean function (tested against real Go, not proved from fmt's source: count such statements apart). THE CARD IS WHAT COUNTS. Prove the row's statement (the work); the ties are given (YtjlllkdimfkjaaaDoorTie.lean); close each card by the builder's one call (the guide's Derived/Test/ToyasCard.lean, 'card_holds'). Laid BY PROGRAM, IN A SANDBOX (cutbox-door.mjs). By AI agents, Wed Nov 11 2026. No macro, syntax, notation, axiom, sorry.
-/
import Derived.Test.YtjlllkdimfkjaaaDoorRows
import GoSem.ClaimSeven
namespace Go.Proofs.YtjlllkdimfkjaaaDoor
namespace Rows

/-- THE TIED CARD OF 'warrenlaw09.BranchForms'. -/
def branchFormsCard : Claim7 := { stood := { row := branchFormsRow, standIns := [], harness := (true, "28fc39f18e03209086dc941c4996a07efbaa3946fd7f8c4ffbdcb7eab5f2a44c"), looks := true }, kinds := [], alts := [], laidByText := true, laidKinds := [.handle], laidTests := true, laidLooks := .later }
def BranchFormsCardSaid : Prop := Claim7.holds Tryd.pinned (.plain (OpenSpec.ofChange branchFormsSpec)) branchFormsCard

/-- THE TIED CARD OF 'warrenlaw09.BranchBack'. -/
def branchBackCard : Claim7 := { stood := { row := branchBackRow, standIns := [], harness := (true, "28fc39f18e03209086dc941c4996a07efbaa3946fd7f8c4ffbdcb7eab5f2a44c"), looks := true }, kinds := [], alts := [], laidByText := true, laidKinds := [.handle], laidTests := true, laidLooks := .later }
def BranchBackCardSaid : Prop := Claim7.holds Tryd.pinned (.plain (OpenSpec.ofChange branchBackSpec)) branchBackCard

/-- THE SECOND FORM's CARD OF 'warrenlaw09.BranchForms'. -/
def branchFormsUptoCard : Claim7 := { stood := { row := branchFormsUptoRow, standIns := [], harness := (true, "28fc39f18e03209086dc941c4996a07efbaa3946fd7f8c4ffbdcb7eab5f2a44c"), looks := true }, kinds := [], alts := [], laidByText := true, laidKinds := [.handle], laidTests := true, laidLooks := .later }
def BranchFormsUptoCardSaid : Prop := Claim7.holds Tryd.pinned (.plain (OpenSpec.upto branchFormsSpec)) branchFormsUptoCard

/-- THE SECOND FORM's CARD OF 'warrenlaw09.BranchBack'. -/
def branchBackUptoCard : Claim7 := { stood := { row := branchBackUptoRow, standIns := [], harness := (true, "28fc39f18e03209086dc941c4996a07efbaa3946fd7f8c4ffbdcb7eab5f2a44c"), looks := true }, kinds := [], alts := [], laidByText := true, laidKinds := [.handle], laidTests := true, laidLooks := .later }
def BranchBackUptoCardSaid : Prop := Claim7.holds Tryd.pinned (.plain (OpenSpec.upto branchBackSpec)) branchBackUptoCard
end Rows
end Go.Proofs.YtjlllkdimfkjaaaDoor
