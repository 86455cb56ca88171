/-
  DERIVED. GIVEN WITH THE SEED: THE CARDS: each row of YtbgkjniagedcnaaGreatDoorRows.lean that lists a variable, with what it lists TIED to the program's text (the seventh form; the later family's looks); each row that meets fmt, with fmt's text TOLD by the authors' own Lean function (tested against real Go, not proved from fmt's source: count such statements apart). THE CARD IS WHAT COUNTS. Prove the row's statement (the work); the ties are given (YtbgkjniagedcnaaGreatDoorTie.lean); close each card by the builder's one call (the guide's Derived/Test/ToyasCard.lean, 'card_holds'). Laid BY PROGRAM, IN A SANDBOX (cutbox-door.mjs). By AI agents, Wed Nov 11 2026. No macro, syntax, notation, axiom, sorry.
-/
import Derived.Test.YtbgkjniagedcnaaGreatDoorRows
import GoSem.ClaimSeven
namespace Go.Proofs.YtbgkjniagedcnaaGreatDoor
namespace Rows

/-- THE TIED CARD OF 'warrenlaw15.ShapeTells'. -/
def shapeTellsCard : Claim7 := { stood := { row := shapeTellsRow, standIns := [], harness := (true, "c76961470cc7f05a08a11f5d5cfbbac1683663fdb7e3c81eda4ce2ca130b26be"), looks := true }, kinds := [], alts := [], laidByText := true, laidKinds := [.handle], laidTests := true, laidLooks := .later }
def ShapeTellsCardSaid : Prop := Claim7.holds Tryz.pinned (.plain (OpenSpec.ofChange shapeTellsSpec)) shapeTellsCard

/-- THE TIED CARD OF 'warrenlaw15.ShapeRight'. -/
def shapeRightCard : Claim7 := { stood := { row := shapeRightRow, standIns := [], harness := (true, "c76961470cc7f05a08a11f5d5cfbbac1683663fdb7e3c81eda4ce2ca130b26be"), looks := true }, kinds := [], alts := [], laidByText := true, laidKinds := [.handle], laidTests := true, laidLooks := .later }
def ShapeRightCardSaid : Prop := Claim7.holds Tryz.pinned (.plain (OpenSpec.ofChange shapeRightSpec)) shapeRightCard

/-- THE TIED CARD OF 'warrenlaw15.ShapeHigh'. -/
def shapeHighCard : Claim7 := { stood := { row := shapeHighRow, standIns := [], harness := (true, "c76961470cc7f05a08a11f5d5cfbbac1683663fdb7e3c81eda4ce2ca130b26be"), looks := true }, kinds := [], alts := [], laidByText := true, laidKinds := [.handle], laidTests := true, laidLooks := .later }
def ShapeHighCardSaid : Prop := Claim7.holds Tryz.pinned (.plain (OpenSpec.ofChange shapeHighSpec)) shapeHighCard

/-- THE SECOND FORM's CARD OF 'warrenlaw15.ShapeTells'. -/
def shapeTellsUptoCard : Claim7 := { stood := { row := shapeTellsUptoRow, standIns := [], harness := (true, "c76961470cc7f05a08a11f5d5cfbbac1683663fdb7e3c81eda4ce2ca130b26be"), looks := true }, kinds := [], alts := [], laidByText := true, laidKinds := [.handle], laidTests := true, laidLooks := .later }
def ShapeTellsUptoCardSaid : Prop := Claim7.holds Tryz.pinned (.plain (OpenSpec.upto shapeTellsSpec)) shapeTellsUptoCard

/-- THE SECOND FORM's CARD OF 'warrenlaw15.ShapeRight'. -/
def shapeRightUptoCard : Claim7 := { stood := { row := shapeRightUptoRow, standIns := [], harness := (true, "c76961470cc7f05a08a11f5d5cfbbac1683663fdb7e3c81eda4ce2ca130b26be"), looks := true }, kinds := [], alts := [], laidByText := true, laidKinds := [.handle], laidTests := true, laidLooks := .later }
def ShapeRightUptoCardSaid : Prop := Claim7.holds Tryz.pinned (.plain (OpenSpec.upto shapeRightSpec)) shapeRightUptoCard

/-- THE SECOND FORM's CARD OF 'warrenlaw15.ShapeHigh'. -/
def shapeHighUptoCard : Claim7 := { stood := { row := shapeHighUptoRow, standIns := [], harness := (true, "c76961470cc7f05a08a11f5d5cfbbac1683663fdb7e3c81eda4ce2ca130b26be"), looks := true }, kinds := [], alts := [], laidByText := true, laidKinds := [.handle], laidTests := true, laidLooks := .later }
def ShapeHighUptoCardSaid : Prop := Claim7.holds Tryz.pinned (.plain (OpenSpec.upto shapeHighSpec)) shapeHighUptoCard
end Rows
end Go.Proofs.YtbgkjniagedcnaaGreatDoor
