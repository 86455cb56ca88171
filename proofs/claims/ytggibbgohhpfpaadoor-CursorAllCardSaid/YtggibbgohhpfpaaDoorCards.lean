/-
  DERIVED. GIVEN WITH THE SEED: THE CARDS: each row of YtggibbgohhpfpaaDoorRows.lean that lists a variable, with what it lists TIED to the program's text (the seventh form; the later family's looks); each row that meets fmt, with fmt's text TOLD by the authors' own Lean function (tested against real Go, not proved from fmt's source: count such statements apart). THE CARD IS WHAT COUNTS. Prove the row's statement (the work); the ties are given (YtggibbgohhpfpaaDoorTie.lean); close each card by the builder's one call (the guide's Derived/Test/ToyasCard.lean, 'card_holds'). Laid BY PROGRAM, IN A SANDBOX (cutbox-door.mjs). By AI agents, Wed Nov 11 2026. No macro, syntax, notation, axiom, sorry.
-/
import Derived.Test.YtggibbgohhpfpaaDoorRows
import GoSem.ClaimSeven
namespace Go.Proofs.YtggibbgohhpfpaaDoor
namespace Rows

/-- THE TIED CARD OF 'warrenlaw14.CursorRuns'. -/
def cursorRunsCard : Claim7 := { stood := { row := cursorRunsRow, standIns := [], harness := (true, "fe750083a9e73781f24e8e62831048ebb342dc1f921244be1abca6d95be31a2d"), looks := true }, kinds := [], alts := [], laidByText := true, laidKinds := [.handle], laidTests := true, laidLooks := .later }
def CursorRunsCardSaid : Prop := Claim7.holds Tryd.pinned (.plain (OpenSpec.ofChange cursorRunsSpec)) cursorRunsCard

/-- THE TIED CARD OF 'warrenlaw14.CursorAll'. -/
def cursorAllCard : Claim7 := { stood := { row := cursorAllRow, standIns := [], harness := (true, "fe750083a9e73781f24e8e62831048ebb342dc1f921244be1abca6d95be31a2d"), looks := true }, kinds := [], alts := [], laidByText := true, laidKinds := [.handle], laidTests := true, laidLooks := .later }
def CursorAllCardSaid : Prop := Claim7.holds Tryd.pinned (.plain (OpenSpec.ofChange cursorAllSpec)) cursorAllCard

/-- THE TIED CARD OF 'warrenlaw14.CursorSeeks'. -/
def cursorSeeksCard : Claim7 := { stood := { row := cursorSeeksRow, standIns := [], harness := (true, "fe750083a9e73781f24e8e62831048ebb342dc1f921244be1abca6d95be31a2d"), looks := true }, kinds := [], alts := [], laidByText := true, laidKinds := [.handle], laidTests := true, laidLooks := .later }
def CursorSeeksCardSaid : Prop := Claim7.holds Tryd.pinned (.plain (OpenSpec.ofChange cursorSeeksSpec)) cursorSeeksCard

/-- THE SECOND FORM's CARD OF 'warrenlaw14.CursorRuns'. -/
def cursorRunsUptoCard : Claim7 := { stood := { row := cursorRunsUptoRow, standIns := [], harness := (true, "fe750083a9e73781f24e8e62831048ebb342dc1f921244be1abca6d95be31a2d"), looks := true }, kinds := [], alts := [], laidByText := true, laidKinds := [.handle], laidTests := true, laidLooks := .later }
def CursorRunsUptoCardSaid : Prop := Claim7.holds Tryd.pinned (.plain (OpenSpec.upto cursorRunsSpec)) cursorRunsUptoCard

/-- THE SECOND FORM's CARD OF 'warrenlaw14.CursorAll'. -/
def cursorAllUptoCard : Claim7 := { stood := { row := cursorAllUptoRow, standIns := [], harness := (true, "fe750083a9e73781f24e8e62831048ebb342dc1f921244be1abca6d95be31a2d"), looks := true }, kinds := [], alts := [], laidByText := true, laidKinds := [.handle], laidTests := true, laidLooks := .later }
def CursorAllUptoCardSaid : Prop := Claim7.holds Tryd.pinned (.plain (OpenSpec.upto cursorAllSpec)) cursorAllUptoCard

/-- THE SECOND FORM's CARD OF 'warrenlaw14.CursorSeeks'. -/
def cursorSeeksUptoCard : Claim7 := { stood := { row := cursorSeeksUptoRow, standIns := [], harness := (true, "fe750083a9e73781f24e8e62831048ebb342dc1f921244be1abca6d95be31a2d"), looks := true }, kinds := [], alts := [], laidByText := true, laidKinds := [.handle], laidTests := true, laidLooks := .later }
def CursorSeeksUptoCardSaid : Prop := Claim7.holds Tryd.pinned (.plain (OpenSpec.upto cursorSeeksSpec)) cursorSeeksUptoCard
end Rows
end Go.Proofs.YtggibbgohhpfpaaDoor
