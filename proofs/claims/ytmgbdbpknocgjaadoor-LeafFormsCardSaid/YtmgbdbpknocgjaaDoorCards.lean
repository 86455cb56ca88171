/-
  DERIVED. GIVEN WITH THE SEED: THE CARDS: each row of YtmgbdbpknocgjaaDoorRows.lean that lists a variable, with what it lists TIED to the program's text (the seventh form; the later family's looks); each row that meets fmt, with fmt's text TOLD by the authors' own Lean function (tested against real Go, not proved from fmt's source: count such statements apart). THE CARD IS WHAT COUNTS. Prove the row's statement (the work); the ties are given (YtmgbdbpknocgjaaDoorTie.lean); close each card by the builder's one call (the guide's Derived/Test/ToyasCard.lean, 'card_holds'). Laid BY PROGRAM, IN A SANDBOX (cutbox-door.mjs). By AI agents, Wed Nov 11 2026. No macro, syntax, notation, axiom, sorry.
-/
import Derived.Test.YtmgbdbpknocgjaaDoorRows
import GoSem.ClaimSeven
namespace Go.Proofs.YtmgbdbpknocgjaaDoor
namespace Rows

/-- THE TIED CARD OF 'warrenlaw08.LeafForms'. -/
def leafFormsCard : Claim7 := { stood := { row := leafFormsRow, standIns := [], harness := (true, "ec25239753ca258a915c81af1d3342ff4c1cc6fbf1f9ad1c0f6b45bb5c9f5580"), looks := true }, kinds := [], alts := [], laidByText := true, laidKinds := [.handle], laidTests := true, laidLooks := .later }
def LeafFormsCardSaid : Prop := Claim7.holds Tryd.pinned (.plain (OpenSpec.ofChange leafFormsSpec)) leafFormsCard

/-- THE TIED CARD OF 'warrenlaw08.LeafBack'. -/
def leafBackCard : Claim7 := { stood := { row := leafBackRow, standIns := [], harness := (true, "ec25239753ca258a915c81af1d3342ff4c1cc6fbf1f9ad1c0f6b45bb5c9f5580"), looks := true }, kinds := [], alts := [], laidByText := true, laidKinds := [.handle], laidTests := true, laidLooks := .later }
def LeafBackCardSaid : Prop := Claim7.holds Tryd.pinned (.plain (OpenSpec.ofChange leafBackSpec)) leafBackCard

/-- THE TIED CARD OF 'warrenlaw08.LeafGrows'. -/
def leafGrowsCard : Claim7 := { stood := { row := leafGrowsRow, standIns := [], harness := (true, "ec25239753ca258a915c81af1d3342ff4c1cc6fbf1f9ad1c0f6b45bb5c9f5580"), looks := true }, kinds := [], alts := [], laidByText := true, laidKinds := [.handle], laidTests := true, laidLooks := .later }
def LeafGrowsCardSaid : Prop := Claim7.holds Tryd.pinned (.plain (OpenSpec.ofChange leafGrowsSpec)) leafGrowsCard

/-- THE SECOND FORM's CARD OF 'warrenlaw08.LeafForms'. -/
def leafFormsUptoCard : Claim7 := { stood := { row := leafFormsUptoRow, standIns := [], harness := (true, "ec25239753ca258a915c81af1d3342ff4c1cc6fbf1f9ad1c0f6b45bb5c9f5580"), looks := true }, kinds := [], alts := [], laidByText := true, laidKinds := [.handle], laidTests := true, laidLooks := .later }
def LeafFormsUptoCardSaid : Prop := Claim7.holds Tryd.pinned (.plain (OpenSpec.upto leafFormsSpec)) leafFormsUptoCard

/-- THE SECOND FORM's CARD OF 'warrenlaw08.LeafBack'. -/
def leafBackUptoCard : Claim7 := { stood := { row := leafBackUptoRow, standIns := [], harness := (true, "ec25239753ca258a915c81af1d3342ff4c1cc6fbf1f9ad1c0f6b45bb5c9f5580"), looks := true }, kinds := [], alts := [], laidByText := true, laidKinds := [.handle], laidTests := true, laidLooks := .later }
def LeafBackUptoCardSaid : Prop := Claim7.holds Tryd.pinned (.plain (OpenSpec.upto leafBackSpec)) leafBackUptoCard

/-- THE SECOND FORM's CARD OF 'warrenlaw08.LeafGrows'. -/
def leafGrowsUptoCard : Claim7 := { stood := { row := leafGrowsUptoRow, standIns := [], harness := (true, "ec25239753ca258a915c81af1d3342ff4c1cc6fbf1f9ad1c0f6b45bb5c9f5580"), looks := true }, kinds := [], alts := [], laidByText := true, laidKinds := [.handle], laidTests := true, laidLooks := .later }
def LeafGrowsUptoCardSaid : Prop := Claim7.holds Tryd.pinned (.plain (OpenSpec.upto leafGrowsSpec)) leafGrowsUptoCard
end Rows
end Go.Proofs.YtmgbdbpknocgjaaDoor
