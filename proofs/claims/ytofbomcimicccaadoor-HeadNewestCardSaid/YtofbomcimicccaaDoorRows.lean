/-
  NARROWER THAN 'FOR EVERY INPUT', by the rows' own cells (each row's printed sentence says how): HeadForms: laid · HeadNewest: laid · HeadAlone: laid.
  DERIVED. THE GIVEN ROWS OF THIS SEAT. 3 by the template 'for every input the law returns true; each argument reads behind the call as it read before'; 0 by the template 'total and deterministic' (their statements: YtofbomcimicccaaDoorTotals.lean).
  GIVEN WITH THE SEED: the statements are not yours to turn. If you find one false, say at which input.
  Laid BY PROGRAM, IN A SANDBOX (cutbox-rows.mjs): the forced cells as the released guide's own fill.sh prints them over the translation 1e0dc6b8ef4e5a2e… (all of the seat's roots in one cut). By AI agents, Wed Nov 11 2026. No macro, syntax, notation, axiom, sorry.
-/
import Derived.Test.YtofbomcimicccaaDoorChecked
import GoSem.Claim
import GoSem.ClaimJoined
import GoSem.ClaimMapViews
import Derived.JoinedTies
import Derived.KernelRfl
namespace Go.Proofs.YtofbomcimicccaaDoor
/- THE CELL 'sum', in the pinned program and in every row, IS THE sha256 OF THE DUMP (.gsa) THAT YtofbomcimicccaaDoorProg.lean LOADS. Nothing in Lean hashes anything: it is a label: what it is worth is what the hold of that sum in a sandbox is worth. -/
noncomputable def Tryd.pinned : Pinned := { name := "ytofbomcimicccaadoor", sum := "1e0dc6b8ef4e5a2ebec127b6009510399168e2f7123ae43fa3b2c86999ff2b38", checked := Tryd.checked }
namespace Rows
def none {H : Type} : Left H := { results := [], args := [] }

/- WHAT THE LISTED PACKAGE-LEVEL VARIABLES READ AS WHEN THE CALL BEGINS. Each datum BY PROGRAM (the guide's laid-datum.mjs) off the statement by which the dump's own 'gosem.cut.vars' lays the variable. In a bare row this is a premise. The card (YtofbomcimicccaaDoorCards.lean) ties it to the program's text. -/
def laid_errors_errorType {H : Type} : DataW H := .iface "internal/reflectlite.rtype" (.agg [.ptr (.lit (.string [101, 114, 114, 111, 114]))])
def laid_warren_crc_worth {H : Type} : DataW H := .agg [.lit (.int .u32 0), .lit (.int .u32 274646895), .lit (.int .u32 549293790), .lit (.int .u32 820201905), .lit (.int .u32 1098587580), .lit (.int .u32 1361435347), .lit (.int .u32 1640403810), .lit (.int .u32 1905808397), .lit (.int .u32 2197175160), .lit (.int .u32 2460548119), .lit (.int .u32 2722870694), .lit (.int .u32 2987750089), .lit (.int .u32 3280807620), .lit (.int .u32 3553878443), .lit (.int .u32 3811616794), .lit (.int .u32 4084100981)]
def laid_warren_head_most {H : Type} : DataW H := .agg [.lit (.int .u64 4611686018427387904), .lit (.int .u64 4611686018427387904), .lit (.int .u64 4611686018427387904), .lit (.int .u64 1023), .lit (.int .u64 4096)]

/-- 'warrenlaw19.HeadForms': WHATEVER THE INPUT: true; the input reads as it did. -/
def headFormsSpec : ChangeSpec := { name := "headForms", fn := fun _ => fun
  | [d1, d2, d3] => { results := [.lit (.bool true)], args := [d1, d2, d3] }
  | _ => none }
def headFormsRow : OpenClaim := { program := "ytofbomcimicccaadoor", sum := "1e0dc6b8ef4e5a2ebec127b6009510399168e2f7123ae43fa3b2c86999ff2b38", func := "warren/warrenlaw19.HeadForms", spec := "headForms", inPlace := ["internal/reflectlite.ValueOf", "(internal/reflectlite.Value).Type", "(internal/reflectlite.Value).IsNil", "internal/reflectlite.TypeOf", "(internal/reflectlite.Value).Elem", "(internal/reflectlite.Value).Set"], unfollowed := true, recurses := true, named := ["warren/head.most", "warren/crc.worth", "errors.errorType"], apart := false, laid := [("errors.errorType", laid_errors_errorType), ("warren/crc.worth", laid_warren_crc_worth), ("warren/head.most", laid_warren_head_most)] }
def HeadFormsSaid : Prop := headFormsRow.holds Tryd.pinned (OpenSpec.ofChange headFormsSpec)

/-- ITS FALSE NEIGHBOUR: 'it returns false'. Refute it at one input. -/
def headFormsWrong : ChangeSpec := { name := "headForms", fn := fun _ => fun
  | [d1, d2, d3] => { results := [.lit (.bool false)], args := [d1, d2, d3] }
  | _ => none }
def HeadFormsWrongFalsely : Prop := headFormsRow.holds Tryd.pinned (OpenSpec.ofChange headFormsWrong)

/-- 'warrenlaw19.HeadNewest': WHATEVER THE INPUT: true; the input reads as it did. -/
def headNewestSpec : ChangeSpec := { name := "headNewest", fn := fun _ => fun
  | [d1, d2, d3] => { results := [.lit (.bool true)], args := [d1, d2, d3] }
  | _ => none }
def headNewestRow : OpenClaim := { program := "ytofbomcimicccaadoor", sum := "1e0dc6b8ef4e5a2ebec127b6009510399168e2f7123ae43fa3b2c86999ff2b38", func := "warren/warrenlaw19.HeadNewest", spec := "headNewest", inPlace := ["internal/reflectlite.ValueOf", "(internal/reflectlite.Value).Type", "(internal/reflectlite.Value).IsNil", "internal/reflectlite.TypeOf", "(internal/reflectlite.Value).Elem", "(internal/reflectlite.Value).Set"], unfollowed := true, recurses := true, named := ["warren/head.most", "warren/crc.worth", "errors.errorType"], apart := false, laid := [("errors.errorType", laid_errors_errorType), ("warren/crc.worth", laid_warren_crc_worth), ("warren/head.most", laid_warren_head_most)] }
def HeadNewestSaid : Prop := headNewestRow.holds Tryd.pinned (OpenSpec.ofChange headNewestSpec)

/-- ITS FALSE NEIGHBOUR: 'it returns false'. Refute it at one input. -/
def headNewestWrong : ChangeSpec := { name := "headNewest", fn := fun _ => fun
  | [d1, d2, d3] => { results := [.lit (.bool false)], args := [d1, d2, d3] }
  | _ => none }
def HeadNewestWrongFalsely : Prop := headNewestRow.holds Tryd.pinned (OpenSpec.ofChange headNewestWrong)

/-- 'warrenlaw19.HeadAlone': WHATEVER THE INPUT: true; the input reads as it did. -/
def headAloneSpec : ChangeSpec := { name := "headAlone", fn := fun _ => fun
  | [d1, d2] => { results := [.lit (.bool true)], args := [d1, d2] }
  | _ => none }
def headAloneRow : OpenClaim := { program := "ytofbomcimicccaadoor", sum := "1e0dc6b8ef4e5a2ebec127b6009510399168e2f7123ae43fa3b2c86999ff2b38", func := "warren/warrenlaw19.HeadAlone", spec := "headAlone", inPlace := ["internal/reflectlite.ValueOf", "(internal/reflectlite.Value).Type", "(internal/reflectlite.Value).IsNil", "internal/reflectlite.TypeOf", "(internal/reflectlite.Value).Elem", "(internal/reflectlite.Value).Set"], unfollowed := true, recurses := true, named := ["warren/head.most", "warren/crc.worth", "errors.errorType"], apart := false, laid := [("errors.errorType", laid_errors_errorType), ("warren/crc.worth", laid_warren_crc_worth), ("warren/head.most", laid_warren_head_most)] }
def HeadAloneSaid : Prop := headAloneRow.holds Tryd.pinned (OpenSpec.ofChange headAloneSpec)

/-- ITS FALSE NEIGHBOUR: 'it returns false'. Refute it at one input. -/
def headAloneWrong : ChangeSpec := { name := "headAlone", fn := fun _ => fun
  | [d1, d2] => { results := [.lit (.bool false)], args := [d1, d2] }
  | _ => none }
def HeadAloneWrongFalsely : Prop := headAloneRow.holds Tryd.pinned (OpenSpec.ofChange headAloneWrong)

/- THE SECOND FORM. 'bulk': how many values and letters a reading holds, each counted each time it is reached (what is shared counts as often as it is met; a slice's spare places count too). A statement '..UptoSaid' is the law's where the arguments, and the package variables that the reading takes, are together of bulk at most 1048576: NARROWER than '..Said'. Prove '..Said' where nothing that the law and all that it calls make is longer than what came in: it says more and counts as full. Else prove '..UptoSaid'. A law counts once. -/
mutual
def uptoBulk {H : Type} : DataW H → Nat
  | .lit (.string bytes) => bytes.length + 1
  | .lit _ => 1
  | .nil => 1
  | .ptr d => uptoBulk d + 1
  | .slice elems spare => uptoBulkAll elems + uptoBulkAll spare + 1
  | .agg parts => uptoBulkAll parts + 1
  | .iface _ d => uptoBulk d + 1
  | .map entries => uptoBulkEntries entries + 1
  | .held _ => 1
def uptoBulkAll {H : Type} : List (DataW H) → Nat
  | [] => 0
  | d :: r => uptoBulk d + uptoBulkAll r
def uptoBulkEntries {H : Type} : List (Lit × DataW H) → Nat
  | [] => 0
  | x :: r => uptoBulkEntry x + uptoBulkEntries r
def uptoBulkEntry {H : Type} : Lit × DataW H → Nat
  | (.string bytes, d) => bytes.length + uptoBulk d + 1
  | (_, d) => uptoBulk d + 1
 end
def uptoSmall : (H : Type) → List (DataW H) → Bool := fun _ ds => decide (uptoBulkAll ds ≤ 1048576)
def OpenSpec.upto (s : _root_.Go.ChangeSpec) : _root_.Go.OpenSpec := { _root_.Go.OpenSpec.ofChange s with cond := some uptoSmall }

/-- 'warrenlaw19.HeadForms', WHERE WHAT IT READS IS OF BULK AT MOST 1048576: true; the input reads as it did. -/
def headFormsUptoRow : OpenClaim := { program := "ytofbomcimicccaadoor", sum := "1e0dc6b8ef4e5a2ebec127b6009510399168e2f7123ae43fa3b2c86999ff2b38", func := "warren/warrenlaw19.HeadForms", spec := "headForms", inPlace := ["internal/reflectlite.ValueOf", "(internal/reflectlite.Value).Type", "(internal/reflectlite.Value).IsNil", "internal/reflectlite.TypeOf", "(internal/reflectlite.Value).Elem", "(internal/reflectlite.Value).Set"], unfollowed := true, recurses := true, named := ["warren/head.most", "warren/crc.worth", "errors.errorType"], apart := false, laid := [("errors.errorType", laid_errors_errorType), ("warren/crc.worth", laid_warren_crc_worth), ("warren/head.most", laid_warren_head_most)], narrowed := true }
def HeadFormsUptoSaid : Prop := headFormsUptoRow.holds Tryd.pinned (OpenSpec.upto headFormsSpec)

/-- 'warrenlaw19.HeadNewest', WHERE WHAT IT READS IS OF BULK AT MOST 1048576: true; the input reads as it did. -/
def headNewestUptoRow : OpenClaim := { program := "ytofbomcimicccaadoor", sum := "1e0dc6b8ef4e5a2ebec127b6009510399168e2f7123ae43fa3b2c86999ff2b38", func := "warren/warrenlaw19.HeadNewest", spec := "headNewest", inPlace := ["internal/reflectlite.ValueOf", "(internal/reflectlite.Value).Type", "(internal/reflectlite.Value).IsNil", "internal/reflectlite.TypeOf", "(internal/reflectlite.Value).Elem", "(internal/reflectlite.Value).Set"], unfollowed := true, recurses := true, named := ["warren/head.most", "warren/crc.worth", "errors.errorType"], apart := false, laid := [("errors.errorType", laid_errors_errorType), ("warren/crc.worth", laid_warren_crc_worth), ("warren/head.most", laid_warren_head_most)], narrowed := true }
def HeadNewestUptoSaid : Prop := headNewestUptoRow.holds Tryd.pinned (OpenSpec.upto headNewestSpec)

/-- 'warrenlaw19.HeadAlone', WHERE WHAT IT READS IS OF BULK AT MOST 1048576: true; the input reads as it did. -/
def headAloneUptoRow : OpenClaim := { program := "ytofbomcimicccaadoor", sum := "1e0dc6b8ef4e5a2ebec127b6009510399168e2f7123ae43fa3b2c86999ff2b38", func := "warren/warrenlaw19.HeadAlone", spec := "headAlone", inPlace := ["internal/reflectlite.ValueOf", "(internal/reflectlite.Value).Type", "(internal/reflectlite.Value).IsNil", "internal/reflectlite.TypeOf", "(internal/reflectlite.Value).Elem", "(internal/reflectlite.Value).Set"], unfollowed := true, recurses := true, named := ["warren/head.most", "warren/crc.worth", "errors.errorType"], apart := false, laid := [("errors.errorType", laid_errors_errorType), ("warren/crc.worth", laid_warren_crc_worth), ("warren/head.most", laid_warren_head_most)], narrowed := true }
def HeadAloneUptoSaid : Prop := headAloneUptoRow.holds Tryd.pinned (OpenSpec.upto headAloneSpec)

end Rows
end Go.Proofs.YtofbomcimicccaaDoor
