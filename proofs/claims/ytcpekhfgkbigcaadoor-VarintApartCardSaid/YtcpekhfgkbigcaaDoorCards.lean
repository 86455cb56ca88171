/-
  DERIVED. GIVEN WITH THE SEED: THE CARDS: each row of YtcpekhfgkbigcaaDoorRows.lean that lists a variable, with what it lists TIED to the program's text (the seventh form; the later family's looks); each row that meets fmt, with fmt's text TOLD by the authors' own Lean function (tested against real Go, not proved from fmt's source: count such statements apart). THE CARD IS WHAT COUNTS. Prove the row's statement (the work); the ties are given (YtcpekhfgkbigcaaDoorTie.lean); close each card by the builder's one call (the guide's Derived/Test/ToyasCard.lean, 'card_holds'). Laid BY PROGRAM, IN A SANDBOX (cutbox-door.mjs). By AI agents, Wed Nov 11 2026. No macro, syntax, notation, axiom, sorry.
-/
import Derived.Test.YtcpekhfgkbigcaaDoorRows
import GoSem.ClaimSeven
namespace Go.Proofs.YtcpekhfgkbigcaaDoor
namespace Rows

/-- THE TIED CARD OF 'warrenlaw03.VarintBytes'. -/
def varintBytesCard : Claim7 := { stood := { row := varintBytesRow, standIns := [], harness := (true, "847288609952fa7d950ff21d8ef197fcafe57fce178b3346385718110bb5eb6b"), looks := true }, kinds := [], alts := [], laidByText := true, laidKinds := [.handle], laidTests := true, laidLooks := .later }
def VarintBytesCardSaid : Prop := Claim7.holds Tryd.pinned (.plain (OpenSpec.ofChange varintBytesSpec)) varintBytesCard

/-- THE TIED CARD OF 'warrenlaw03.VarintBack'. -/
def varintBackCard : Claim7 := { stood := { row := varintBackRow, standIns := [], harness := (true, "847288609952fa7d950ff21d8ef197fcafe57fce178b3346385718110bb5eb6b"), looks := true }, kinds := [], alts := [], laidByText := true, laidKinds := [.handle], laidTests := true, laidLooks := .later }
def VarintBackCardSaid : Prop := Claim7.holds Tryd.pinned (.plain (OpenSpec.ofChange varintBackSpec)) varintBackCard

/-- THE TIED CARD OF 'warrenlaw03.VarintApart'. -/
def varintApartCard : Claim7 := { stood := { row := varintApartRow, standIns := [], harness := (true, "847288609952fa7d950ff21d8ef197fcafe57fce178b3346385718110bb5eb6b"), looks := true }, kinds := [], alts := [], laidByText := true, laidKinds := [.handle], laidTests := true, laidLooks := .later }
def VarintApartCardSaid : Prop := Claim7.holds Tryd.pinned (.plain (OpenSpec.ofChange varintApartSpec)) varintApartCard

/-- THE SECOND FORM's CARD OF 'warrenlaw03.VarintBytes'. -/
def varintBytesUptoCard : Claim7 := { stood := { row := varintBytesUptoRow, standIns := [], harness := (true, "847288609952fa7d950ff21d8ef197fcafe57fce178b3346385718110bb5eb6b"), looks := true }, kinds := [], alts := [], laidByText := true, laidKinds := [.handle], laidTests := true, laidLooks := .later }
def VarintBytesUptoCardSaid : Prop := Claim7.holds Tryd.pinned (.plain (OpenSpec.upto varintBytesSpec)) varintBytesUptoCard

/-- THE SECOND FORM's CARD OF 'warrenlaw03.VarintBack'. -/
def varintBackUptoCard : Claim7 := { stood := { row := varintBackUptoRow, standIns := [], harness := (true, "847288609952fa7d950ff21d8ef197fcafe57fce178b3346385718110bb5eb6b"), looks := true }, kinds := [], alts := [], laidByText := true, laidKinds := [.handle], laidTests := true, laidLooks := .later }
def VarintBackUptoCardSaid : Prop := Claim7.holds Tryd.pinned (.plain (OpenSpec.upto varintBackSpec)) varintBackUptoCard

/-- THE SECOND FORM's CARD OF 'warrenlaw03.VarintApart'. -/
def varintApartUptoCard : Claim7 := { stood := { row := varintApartUptoRow, standIns := [], harness := (true, "847288609952fa7d950ff21d8ef197fcafe57fce178b3346385718110bb5eb6b"), looks := true }, kinds := [], alts := [], laidByText := true, laidKinds := [.handle], laidTests := true, laidLooks := .later }
def VarintApartUptoCardSaid : Prop := Claim7.holds Tryd.pinned (.plain (OpenSpec.upto varintApartSpec)) varintApartUptoCard
end Rows
end Go.Proofs.YtcpekhfgkbigcaaDoor
