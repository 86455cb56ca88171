/-
  DERIVED. GIVEN WITH THE SEED: THE CARDS: each row of YtjkpjbgapemieaaDoorRows.lean that lists a variable, with what it lists TIED to the program's text (the seventh form; the later family's looks); each row that meets fmt, with fmt's text TOLD by the authors' own Lean function (tested against real Go, not proved from fmt's source: count such statements apart). THE CARD IS WHAT COUNTS. Prove the row's statement (the work); the ties are given (YtjkpjbgapemieaaDoorTie.lean); close each card by the builder's one call (the guide's Derived/Test/ToyasCard.lean, 'card_holds'). Laid BY PROGRAM, IN A SANDBOX (cutbox-door.mjs). By AI agents, Wed Nov 11 2026. No macro, syntax, notation, axiom, sorry.
-/
import Derived.Test.YtjkpjbgapemieaaDoorRows
import GoSem.ClaimSeven
namespace Go.Proofs.YtjkpjbgapemieaaDoor
namespace Rows

/-- THE TIED CARD OF 'warrenlaw15.ShapeHigh'. -/
def shapeHighCard : Claim7 := { stood := { row := shapeHighRow, standIns := [], harness := (true, "7477ee1105932d12a887b5008f8a7458e976341fb3677d36972bf20039c83671"), looks := true }, kinds := [], alts := [], laidByText := true, laidKinds := [.handle], laidTests := true, laidLooks := .later }
def ShapeHighCardSaid : Prop := Claim7.holds Tryd.pinned (.plain (OpenSpec.ofChange shapeHighSpec)) shapeHighCard

/-- THE SECOND FORM's CARD OF 'warrenlaw15.ShapeHigh'. -/
def shapeHighUptoCard : Claim7 := { stood := { row := shapeHighUptoRow, standIns := [], harness := (true, "7477ee1105932d12a887b5008f8a7458e976341fb3677d36972bf20039c83671"), looks := true }, kinds := [], alts := [], laidByText := true, laidKinds := [.handle], laidTests := true, laidLooks := .later }
def ShapeHighUptoCardSaid : Prop := Claim7.holds Tryd.pinned (.plain (OpenSpec.upto shapeHighSpec)) shapeHighUptoCard
end Rows
end Go.Proofs.YtjkpjbgapemieaaDoor
