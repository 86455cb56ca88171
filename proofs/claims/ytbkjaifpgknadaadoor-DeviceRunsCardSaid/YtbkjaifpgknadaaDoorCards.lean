/-
  DERIVED. GIVEN WITH THE SEED: THE CARDS: each row of YtbkjaifpgknadaaDoorRows.lean that lists a variable, with what it lists TIED to the program's text (the seventh form; the later family's looks); each row that meets fmt, with fmt's text TOLD by the authors' own Lean function (tested against real Go, not proved from fmt's source: count such statements apart). THE CARD IS WHAT COUNTS. Prove the row's statement (the work); the ties are given (YtbkjaifpgknadaaDoorTie.lean); close each card by the builder's one call (the guide's Derived/Test/ToyasCard.lean, 'card_holds'). Laid BY PROGRAM, IN A SANDBOX (cutbox-door.mjs). By AI agents, Wed Nov 11 2026. No macro, syntax, notation, axiom, sorry.
-/
import Derived.Test.YtbkjaifpgknadaaDoorRows
import GoSem.ClaimSeven
namespace Go.Proofs.YtbkjaifpgknadaaDoor
namespace Rows

/-- THE TIED CARD OF 'warrenlaw04.DeviceRuns'. -/
def deviceRunsCard : Claim7 := { stood := { row := deviceRunsRow, standIns := [], harness := (true, "0d610a9dfc72070d8227ad02edee14d1e850c07a24847d3bc569beedecc74bcb"), looks := true }, kinds := [], alts := [], laidByText := true, laidKinds := [.handle], laidTests := true, laidLooks := .later }
def DeviceRunsCardSaid : Prop := Claim7.holds Tryd.pinned (.plain (OpenSpec.ofChange deviceRunsSpec)) deviceRunsCard

/-- THE TIED CARD OF 'warrenlaw04.DeviceKeeps'. -/
def deviceKeepsCard : Claim7 := { stood := { row := deviceKeepsRow, standIns := [], harness := (true, "0d610a9dfc72070d8227ad02edee14d1e850c07a24847d3bc569beedecc74bcb"), looks := true }, kinds := [], alts := [], laidByText := true, laidKinds := [.handle], laidTests := true, laidLooks := .later }
def DeviceKeepsCardSaid : Prop := Claim7.holds Tryd.pinned (.plain (OpenSpec.ofChange deviceKeepsSpec)) deviceKeepsCard

/-- THE TIED CARD OF 'warrenlaw04.DeviceCopies'. -/
def deviceCopiesCard : Claim7 := { stood := { row := deviceCopiesRow, standIns := [], harness := (true, "0d610a9dfc72070d8227ad02edee14d1e850c07a24847d3bc569beedecc74bcb"), looks := true }, kinds := [], alts := [], laidByText := true, laidKinds := [.handle], laidTests := true, laidLooks := .later }
def DeviceCopiesCardSaid : Prop := Claim7.holds Tryd.pinned (.plain (OpenSpec.ofChange deviceCopiesSpec)) deviceCopiesCard

/-- THE SECOND FORM's CARD OF 'warrenlaw04.DeviceRuns'. -/
def deviceRunsUptoCard : Claim7 := { stood := { row := deviceRunsUptoRow, standIns := [], harness := (true, "0d610a9dfc72070d8227ad02edee14d1e850c07a24847d3bc569beedecc74bcb"), looks := true }, kinds := [], alts := [], laidByText := true, laidKinds := [.handle], laidTests := true, laidLooks := .later }
def DeviceRunsUptoCardSaid : Prop := Claim7.holds Tryd.pinned (.plain (OpenSpec.upto deviceRunsSpec)) deviceRunsUptoCard

/-- THE SECOND FORM's CARD OF 'warrenlaw04.DeviceKeeps'. -/
def deviceKeepsUptoCard : Claim7 := { stood := { row := deviceKeepsUptoRow, standIns := [], harness := (true, "0d610a9dfc72070d8227ad02edee14d1e850c07a24847d3bc569beedecc74bcb"), looks := true }, kinds := [], alts := [], laidByText := true, laidKinds := [.handle], laidTests := true, laidLooks := .later }
def DeviceKeepsUptoCardSaid : Prop := Claim7.holds Tryd.pinned (.plain (OpenSpec.upto deviceKeepsSpec)) deviceKeepsUptoCard

/-- THE SECOND FORM's CARD OF 'warrenlaw04.DeviceCopies'. -/
def deviceCopiesUptoCard : Claim7 := { stood := { row := deviceCopiesUptoRow, standIns := [], harness := (true, "0d610a9dfc72070d8227ad02edee14d1e850c07a24847d3bc569beedecc74bcb"), looks := true }, kinds := [], alts := [], laidByText := true, laidKinds := [.handle], laidTests := true, laidLooks := .later }
def DeviceCopiesUptoCardSaid : Prop := Claim7.holds Tryd.pinned (.plain (OpenSpec.upto deviceCopiesSpec)) deviceCopiesUptoCard
end Rows
end Go.Proofs.YtbkjaifpgknadaaDoor
