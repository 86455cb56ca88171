/-
  DERIVED. GIVEN WITH THE SEED: THE CARDS: each row of YtfjjfickbhkpaaaDoorRows.lean that lists a variable, with what it lists TIED to the program's text (the seventh form; the later family's looks); each row that meets fmt, with fmt's text TOLD by the authors' own Lean function (tested against real Go, not proved from fmt's source: count such statements apart). THE CARD IS WHAT COUNTS. Prove the row's statement (the work); the ties are given (YtfjjfickbhkpaaaDoorTie.lean); close each card by the builder's one call (the guide's Derived/Test/ToyasCard.lean, 'card_holds'). Laid BY PROGRAM, IN A SANDBOX (cutbox-door.mjs). By AI agents, Wed Nov 11 2026. No macro, syntax, notation, axiom, sorry.
-/
import Derived.Test.YtfjjfickbhkpaaaDoorRows
import GoSem.ClaimSeven
namespace Go.Proofs.YtfjjfickbhkpaaaDoor
namespace Rows

/-- THE TIED CARD OF 'warrenlaw22.ScrubTells'. -/
def scrubTellsCard : Claim7 := { stood := { row := scrubTellsRow, standIns := [], harness := (true, "45e9a8785e971e331d3527fa3e4030f7e2c04485659f48bc5f480d0811e5fed4"), looks := false }, kinds := [], alts := [], laidByText := true, laidKinds := [.data], laidTests := true, laidLooks := .later }
def ScrubTellsCardSaid : Prop := Claim7.holds Tryd.pinned (.plain (OpenSpec.ofChange scrubTellsSpec)) scrubTellsCard

/-- THE TIED CARD OF 'warrenlaw22.ScrubClean'. -/
def scrubCleanCard : Claim7 := { stood := { row := scrubCleanRow, standIns := [], harness := (true, "45e9a8785e971e331d3527fa3e4030f7e2c04485659f48bc5f480d0811e5fed4"), looks := false }, kinds := [], alts := [], laidByText := true, laidKinds := [.data], laidTests := true, laidLooks := .later }
def ScrubCleanCardSaid : Prop := Claim7.holds Tryd.pinned (.plain (OpenSpec.ofChange scrubCleanSpec)) scrubCleanCard

/-- THE SECOND FORM's CARD OF 'warrenlaw22.ScrubTells'. -/
def scrubTellsUptoCard : Claim7 := { stood := { row := scrubTellsUptoRow, standIns := [], harness := (true, "45e9a8785e971e331d3527fa3e4030f7e2c04485659f48bc5f480d0811e5fed4"), looks := false }, kinds := [], alts := [], laidByText := true, laidKinds := [.data], laidTests := true, laidLooks := .later }
def ScrubTellsUptoCardSaid : Prop := Claim7.holds Tryd.pinned (.plain (OpenSpec.upto scrubTellsSpec)) scrubTellsUptoCard

/-- THE SECOND FORM's CARD OF 'warrenlaw22.ScrubClean'. -/
def scrubCleanUptoCard : Claim7 := { stood := { row := scrubCleanUptoRow, standIns := [], harness := (true, "45e9a8785e971e331d3527fa3e4030f7e2c04485659f48bc5f480d0811e5fed4"), looks := false }, kinds := [], alts := [], laidByText := true, laidKinds := [.data], laidTests := true, laidLooks := .later }
def ScrubCleanUptoCardSaid : Prop := Claim7.holds Tryd.pinned (.plain (OpenSpec.upto scrubCleanSpec)) scrubCleanUptoCard
end Rows
end Go.Proofs.YtfjjfickbhkpaaaDoor
