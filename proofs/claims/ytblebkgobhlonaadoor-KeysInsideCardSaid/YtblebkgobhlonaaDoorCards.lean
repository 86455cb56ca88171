/-
  DERIVED. GIVEN WITH THE SEED: THE CARDS: each row of YtblebkgobhlonaaDoorRows.lean that lists a variable, with what it lists TIED to the program's text (the seventh form; the later family's looks); each row that meets fmt, with fmt's text TOLD by the authors' own Lean function (tested against real Go, not proved from fmt's source: count such statements apart). THE CARD IS WHAT COUNTS. Prove the row's statement (the work); the ties are given (YtblebkgobhlonaaDoorTie.lean); close each card by the builder's one call (the guide's Derived/Test/ToyasCard.lean, 'card_holds'). Laid BY PROGRAM, IN A SANDBOX (cutbox-door.mjs). By AI agents, Wed Nov 11 2026. No macro, syntax, notation, axiom, sorry.
-/
import Derived.Test.YtblebkgobhlonaaDoorRows
import GoSem.ClaimSeven
namespace Go.Proofs.YtblebkgobhlonaaDoor
namespace Rows

/-- THE TIED CARD OF 'warrenlaw07.KeysSpans'. -/
def keysSpansCard : Claim7 := { stood := { row := keysSpansRow, standIns := [], harness := (true, "a8d38ce40a51aab425b52801e3e7fd6d77407a600f2e92f82f7230009927436e"), looks := true }, kinds := [], alts := [], laidByText := true, laidKinds := [.handle], laidTests := true, laidLooks := .later }
def KeysSpansCardSaid : Prop := Claim7.holds Tryd.pinned (.plain (OpenSpec.ofChange keysSpansSpec)) keysSpansCard

/-- THE TIED CARD OF 'warrenlaw07.KeysMeets'. -/
def keysMeetsCard : Claim7 := { stood := { row := keysMeetsRow, standIns := [], harness := (true, "a8d38ce40a51aab425b52801e3e7fd6d77407a600f2e92f82f7230009927436e"), looks := true }, kinds := [], alts := [], laidByText := true, laidKinds := [.handle], laidTests := true, laidLooks := .later }
def KeysMeetsCardSaid : Prop := Claim7.holds Tryd.pinned (.plain (OpenSpec.ofChange keysMeetsSpec)) keysMeetsCard

/-- THE TIED CARD OF 'warrenlaw07.KeysInside'. -/
def keysInsideCard : Claim7 := { stood := { row := keysInsideRow, standIns := [], harness := (true, "a8d38ce40a51aab425b52801e3e7fd6d77407a600f2e92f82f7230009927436e"), looks := true }, kinds := [], alts := [], laidByText := true, laidKinds := [.handle], laidTests := true, laidLooks := .later }
def KeysInsideCardSaid : Prop := Claim7.holds Tryd.pinned (.plain (OpenSpec.ofChange keysInsideSpec)) keysInsideCard

/-- THE SECOND FORM's CARD OF 'warrenlaw07.KeysSpans'. -/
def keysSpansUptoCard : Claim7 := { stood := { row := keysSpansUptoRow, standIns := [], harness := (true, "a8d38ce40a51aab425b52801e3e7fd6d77407a600f2e92f82f7230009927436e"), looks := true }, kinds := [], alts := [], laidByText := true, laidKinds := [.handle], laidTests := true, laidLooks := .later }
def KeysSpansUptoCardSaid : Prop := Claim7.holds Tryd.pinned (.plain (OpenSpec.upto keysSpansSpec)) keysSpansUptoCard

/-- THE SECOND FORM's CARD OF 'warrenlaw07.KeysMeets'. -/
def keysMeetsUptoCard : Claim7 := { stood := { row := keysMeetsUptoRow, standIns := [], harness := (true, "a8d38ce40a51aab425b52801e3e7fd6d77407a600f2e92f82f7230009927436e"), looks := true }, kinds := [], alts := [], laidByText := true, laidKinds := [.handle], laidTests := true, laidLooks := .later }
def KeysMeetsUptoCardSaid : Prop := Claim7.holds Tryd.pinned (.plain (OpenSpec.upto keysMeetsSpec)) keysMeetsUptoCard

/-- THE SECOND FORM's CARD OF 'warrenlaw07.KeysInside'. -/
def keysInsideUptoCard : Claim7 := { stood := { row := keysInsideUptoRow, standIns := [], harness := (true, "a8d38ce40a51aab425b52801e3e7fd6d77407a600f2e92f82f7230009927436e"), looks := true }, kinds := [], alts := [], laidByText := true, laidKinds := [.handle], laidTests := true, laidLooks := .later }
def KeysInsideUptoCardSaid : Prop := Claim7.holds Tryd.pinned (.plain (OpenSpec.upto keysInsideSpec)) keysInsideUptoCard
end Rows
end Go.Proofs.YtblebkgobhlonaaDoor
