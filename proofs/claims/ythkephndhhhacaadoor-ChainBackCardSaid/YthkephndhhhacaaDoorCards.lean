/-
  DERIVED. GIVEN WITH THE SEED: THE CARDS: each row of YthkephndhhhacaaDoorRows.lean that lists a variable, with what it lists TIED to the program's text (the seventh form; the later family's looks); each row that meets fmt, with fmt's text TOLD by the authors' own Lean function (tested against real Go, not proved from fmt's source: count such statements apart). THE CARD IS WHAT COUNTS. Prove the row's statement (the work); the ties are given (YthkephndhhhacaaDoorTie.lean); close each card by the builder's one call (the guide's Derived/Test/ToyasCard.lean, 'card_holds'). Laid BY PROGRAM, IN A SANDBOX (cutbox-door.mjs). By AI agents, Wed Nov 11 2026. No macro, syntax, notation, axiom, sorry.
-/
import Derived.Test.YthkephndhhhacaaDoorRows
import GoSem.ClaimSeven
namespace Go.Proofs.YthkephndhhhacaaDoor
namespace Rows

/-- THE TIED CARD OF 'warrenlaw10.ChainForms'. -/
def chainFormsCard : Claim7 := { stood := { row := chainFormsRow, standIns := [], harness := (true, "b2088cdfc1c5b77d80552947aa067c99ee4d7ef246366dc020adfeadcae39940"), looks := true }, kinds := [], alts := [], laidByText := true, laidKinds := [.handle], laidTests := true, laidLooks := .later }
def ChainFormsCardSaid : Prop := Claim7.holds Tryd.pinned (.plain (OpenSpec.ofChange chainFormsSpec)) chainFormsCard

/-- THE TIED CARD OF 'warrenlaw10.ChainBack'. -/
def chainBackCard : Claim7 := { stood := { row := chainBackRow, standIns := [], harness := (true, "b2088cdfc1c5b77d80552947aa067c99ee4d7ef246366dc020adfeadcae39940"), looks := true }, kinds := [], alts := [], laidByText := true, laidKinds := [.handle], laidTests := true, laidLooks := .later }
def ChainBackCardSaid : Prop := Claim7.holds Tryd.pinned (.plain (OpenSpec.ofChange chainBackSpec)) chainBackCard

/-- THE TIED CARD OF 'warrenlaw10.ChainParts'. -/
def chainPartsCard : Claim7 := { stood := { row := chainPartsRow, standIns := [], harness := (true, "b2088cdfc1c5b77d80552947aa067c99ee4d7ef246366dc020adfeadcae39940"), looks := true }, kinds := [], alts := [], laidByText := true, laidKinds := [.handle], laidTests := true, laidLooks := .later }
def ChainPartsCardSaid : Prop := Claim7.holds Tryd.pinned (.plain (OpenSpec.ofChange chainPartsSpec)) chainPartsCard

/-- THE SECOND FORM's CARD OF 'warrenlaw10.ChainForms'. -/
def chainFormsUptoCard : Claim7 := { stood := { row := chainFormsUptoRow, standIns := [], harness := (true, "b2088cdfc1c5b77d80552947aa067c99ee4d7ef246366dc020adfeadcae39940"), looks := true }, kinds := [], alts := [], laidByText := true, laidKinds := [.handle], laidTests := true, laidLooks := .later }
def ChainFormsUptoCardSaid : Prop := Claim7.holds Tryd.pinned (.plain (OpenSpec.upto chainFormsSpec)) chainFormsUptoCard

/-- THE SECOND FORM's CARD OF 'warrenlaw10.ChainBack'. -/
def chainBackUptoCard : Claim7 := { stood := { row := chainBackUptoRow, standIns := [], harness := (true, "b2088cdfc1c5b77d80552947aa067c99ee4d7ef246366dc020adfeadcae39940"), looks := true }, kinds := [], alts := [], laidByText := true, laidKinds := [.handle], laidTests := true, laidLooks := .later }
def ChainBackUptoCardSaid : Prop := Claim7.holds Tryd.pinned (.plain (OpenSpec.upto chainBackSpec)) chainBackUptoCard

/-- THE SECOND FORM's CARD OF 'warrenlaw10.ChainParts'. -/
def chainPartsUptoCard : Claim7 := { stood := { row := chainPartsUptoRow, standIns := [], harness := (true, "b2088cdfc1c5b77d80552947aa067c99ee4d7ef246366dc020adfeadcae39940"), looks := true }, kinds := [], alts := [], laidByText := true, laidKinds := [.handle], laidTests := true, laidLooks := .later }
def ChainPartsUptoCardSaid : Prop := Claim7.holds Tryd.pinned (.plain (OpenSpec.upto chainPartsSpec)) chainPartsUptoCard
end Rows
end Go.Proofs.YthkephndhhhacaaDoor
