/-
  DERIVED. GIVEN WITH THE SEED: THE CARDS: each row of YtjdkifjbbblioaaDoorRows.lean that lists a variable, with what it lists TIED to the program's text (the seventh form; the later family's looks); each row that meets fmt, with fmt's text TOLD by the authors' own Lean function (tested against real Go, not proved from fmt's source: count such statements apart). THE CARD IS WHAT COUNTS. Prove the row's statement (the work); the ties are given (YtjdkifjbbblioaaDoorTie.lean); close each card by the builder's one call (the guide's Derived/Test/ToyasCard.lean, 'card_holds'). Laid BY PROGRAM, IN A SANDBOX (cutbox-door.mjs). By AI agents, Wed Nov 11 2026. No macro, syntax, notation, axiom, sorry.
-/
import Derived.Test.YtjdkifjbbblioaaDoorRows
import GoSem.ClaimSeven
namespace Go.Proofs.YtjdkifjbbblioaaDoor
namespace Rows

/-- THE TIED CARD OF 'warrenlaw01.IntsBytes'. -/
def intsBytesCard : Claim7 := { stood := { row := intsBytesRow, standIns := [], harness := (true, "6f93ae8f6cb85b56901f4f849930b5f70af3a32c743fe84aca902a2b4ed655f0"), looks := true }, kinds := [], alts := [], laidByText := true, laidKinds := [.data, .handle], laidTests := true, laidLooks := .later }
def IntsBytesCardSaid : Prop := Claim7.holds Tryd.pinned (.plain (OpenSpec.ofChange intsBytesSpec)) intsBytesCard

/-- THE TIED CARD OF 'warrenlaw01.IntsBits'. -/
def intsBitsCard : Claim7 := { stood := { row := intsBitsRow, standIns := [], harness := (true, "6f93ae8f6cb85b56901f4f849930b5f70af3a32c743fe84aca902a2b4ed655f0"), looks := true }, kinds := [], alts := [], laidByText := true, laidKinds := [.data, .handle], laidTests := true, laidLooks := .later }
def IntsBitsCardSaid : Prop := Claim7.holds Tryd.pinned (.plain (OpenSpec.ofChange intsBitsSpec)) intsBitsCard

/-- THE TIED CARD OF 'warrenlaw01.IntsBack'. -/
def intsBackCard : Claim7 := { stood := { row := intsBackRow, standIns := [], harness := (true, "6f93ae8f6cb85b56901f4f849930b5f70af3a32c743fe84aca902a2b4ed655f0"), looks := true }, kinds := [], alts := [], laidByText := true, laidKinds := [.data, .handle], laidTests := true, laidLooks := .later }
def IntsBackCardSaid : Prop := Claim7.holds Tryd.pinned (.plain (OpenSpec.ofChange intsBackSpec)) intsBackCard

/-- THE TIED CARD OF 'warrenlaw01.IntsJoins'. -/
def intsJoinsCard : Claim7 := { stood := { row := intsJoinsRow, standIns := [], harness := (true, "6f93ae8f6cb85b56901f4f849930b5f70af3a32c743fe84aca902a2b4ed655f0"), looks := true }, kinds := [], alts := [], laidByText := true, laidKinds := [.data, .handle], laidTests := true, laidLooks := .later }
def IntsJoinsCardSaid : Prop := Claim7.holds Tryd.pinned (.plain (OpenSpec.ofChange intsJoinsSpec)) intsJoinsCard

/-- THE SECOND FORM's CARD OF 'warrenlaw01.IntsBytes'. -/
def intsBytesUptoCard : Claim7 := { stood := { row := intsBytesUptoRow, standIns := [], harness := (true, "6f93ae8f6cb85b56901f4f849930b5f70af3a32c743fe84aca902a2b4ed655f0"), looks := true }, kinds := [], alts := [], laidByText := true, laidKinds := [.data, .handle], laidTests := true, laidLooks := .later }
def IntsBytesUptoCardSaid : Prop := Claim7.holds Tryd.pinned (.plain (OpenSpec.upto intsBytesSpec)) intsBytesUptoCard

/-- THE SECOND FORM's CARD OF 'warrenlaw01.IntsBits'. -/
def intsBitsUptoCard : Claim7 := { stood := { row := intsBitsUptoRow, standIns := [], harness := (true, "6f93ae8f6cb85b56901f4f849930b5f70af3a32c743fe84aca902a2b4ed655f0"), looks := true }, kinds := [], alts := [], laidByText := true, laidKinds := [.data, .handle], laidTests := true, laidLooks := .later }
def IntsBitsUptoCardSaid : Prop := Claim7.holds Tryd.pinned (.plain (OpenSpec.upto intsBitsSpec)) intsBitsUptoCard

/-- THE SECOND FORM's CARD OF 'warrenlaw01.IntsBack'. -/
def intsBackUptoCard : Claim7 := { stood := { row := intsBackUptoRow, standIns := [], harness := (true, "6f93ae8f6cb85b56901f4f849930b5f70af3a32c743fe84aca902a2b4ed655f0"), looks := true }, kinds := [], alts := [], laidByText := true, laidKinds := [.data, .handle], laidTests := true, laidLooks := .later }
def IntsBackUptoCardSaid : Prop := Claim7.holds Tryd.pinned (.plain (OpenSpec.upto intsBackSpec)) intsBackUptoCard

/-- THE SECOND FORM's CARD OF 'warrenlaw01.IntsJoins'. -/
def intsJoinsUptoCard : Claim7 := { stood := { row := intsJoinsUptoRow, standIns := [], harness := (true, "6f93ae8f6cb85b56901f4f849930b5f70af3a32c743fe84aca902a2b4ed655f0"), looks := true }, kinds := [], alts := [], laidByText := true, laidKinds := [.data, .handle], laidTests := true, laidLooks := .later }
def IntsJoinsUptoCardSaid : Prop := Claim7.holds Tryd.pinned (.plain (OpenSpec.upto intsJoinsSpec)) intsJoinsUptoCard
end Rows
end Go.Proofs.YtjdkifjbbblioaaDoor
