/-
  DERIVED. GIVEN WITH THE SEED: THE CARDS: each row of YtdgcghknfhhkiaaDoorRows.lean that lists a variable, with what it lists TIED to the program's text (the seventh form; the later family's looks); each row that meets fmt, with fmt's text TOLD by the authors' own Lean function (tested against real Go, not proved from fmt's source: count such statements apart). THE CARD IS WHAT COUNTS. Prove the row's statement (the work); the ties are given (YtdgcghknfhhkiaaDoorTie.lean); close each card by the builder's one call (the guide's Derived/Test/ToyasCard.lean, 'card_holds'). Laid BY PROGRAM, IN A SANDBOX (cutbox-door.mjs). By AI agents, Wed Nov 11 2026. No macro, syntax, notation, axiom, sorry.
-/
import Derived.Test.YtdgcghknfhhkiaaDoorRows
import GoSem.ClaimSeven
namespace Go.Proofs.YtdgcghknfhhkiaaDoor
namespace Rows

/-- THE TIED CARD OF 'warrenlaw18.PinsTells'. -/
def pinsTellsCard : Claim7 := { stood := { row := pinsTellsRow, standIns := [], harness := (true, "644ca864ec3a184559c94d1a39cafab9c93c1578c47227ece9905fb77127dd67"), looks := true }, kinds := [], alts := [], laidByText := true, laidKinds := [.handle], laidTests := true, laidLooks := .later }
def PinsTellsCardSaid : Prop := Claim7.holds Tryd.pinned (.plain (OpenSpec.ofChange pinsTellsSpec)) pinsTellsCard

/-- THE TIED CARD OF 'warrenlaw18.PinsOnce'. -/
def pinsOnceCard : Claim7 := { stood := { row := pinsOnceRow, standIns := [], harness := (true, "644ca864ec3a184559c94d1a39cafab9c93c1578c47227ece9905fb77127dd67"), looks := true }, kinds := [], alts := [], laidByText := true, laidKinds := [.handle], laidTests := true, laidLooks := .later }
def PinsOnceCardSaid : Prop := Claim7.holds Tryd.pinned (.plain (OpenSpec.ofChange pinsOnceSpec)) pinsOnceCard

/-- THE TIED CARD OF 'warrenlaw18.PinsHold'. -/
def pinsHoldCard : Claim7 := { stood := { row := pinsHoldRow, standIns := [], harness := (true, "644ca864ec3a184559c94d1a39cafab9c93c1578c47227ece9905fb77127dd67"), looks := true }, kinds := [], alts := [], laidByText := true, laidKinds := [.handle], laidTests := true, laidLooks := .later }
def PinsHoldCardSaid : Prop := Claim7.holds Tryd.pinned (.plain (OpenSpec.ofChange pinsHoldSpec)) pinsHoldCard

/-- THE SECOND FORM's CARD OF 'warrenlaw18.PinsTells'. -/
def pinsTellsUptoCard : Claim7 := { stood := { row := pinsTellsUptoRow, standIns := [], harness := (true, "644ca864ec3a184559c94d1a39cafab9c93c1578c47227ece9905fb77127dd67"), looks := true }, kinds := [], alts := [], laidByText := true, laidKinds := [.handle], laidTests := true, laidLooks := .later }
def PinsTellsUptoCardSaid : Prop := Claim7.holds Tryd.pinned (.plain (OpenSpec.upto pinsTellsSpec)) pinsTellsUptoCard

/-- THE SECOND FORM's CARD OF 'warrenlaw18.PinsOnce'. -/
def pinsOnceUptoCard : Claim7 := { stood := { row := pinsOnceUptoRow, standIns := [], harness := (true, "644ca864ec3a184559c94d1a39cafab9c93c1578c47227ece9905fb77127dd67"), looks := true }, kinds := [], alts := [], laidByText := true, laidKinds := [.handle], laidTests := true, laidLooks := .later }
def PinsOnceUptoCardSaid : Prop := Claim7.holds Tryd.pinned (.plain (OpenSpec.upto pinsOnceSpec)) pinsOnceUptoCard

/-- THE SECOND FORM's CARD OF 'warrenlaw18.PinsHold'. -/
def pinsHoldUptoCard : Claim7 := { stood := { row := pinsHoldUptoRow, standIns := [], harness := (true, "644ca864ec3a184559c94d1a39cafab9c93c1578c47227ece9905fb77127dd67"), looks := true }, kinds := [], alts := [], laidByText := true, laidKinds := [.handle], laidTests := true, laidLooks := .later }
def PinsHoldUptoCardSaid : Prop := Claim7.holds Tryd.pinned (.plain (OpenSpec.upto pinsHoldSpec)) pinsHoldUptoCard
end Rows
end Go.Proofs.YtdgcghknfhhkiaaDoor
