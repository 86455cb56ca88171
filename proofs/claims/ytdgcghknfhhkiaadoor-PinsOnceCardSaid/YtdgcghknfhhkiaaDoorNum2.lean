/-
  An error, nil or an Errno, and its number.
-/
import Derived.Test.YtdgcghknfhhkiaaDoorNum
namespace Go.Proofs.YtdgcghknfhhkiaaDoor
open Go.RowKit

def NumIs (e : Value) (f : Int) : Prop := (e = .nilIface ∧ f = 0) ∨ (e = .iface 67 (.int .i64 f))
theorem num_any (e : Value) (f : Int) (w : World) (h : NumIs e f) (hg : Hg w) : Calls Tryd.prog 15 #[e] w fun e' w' => e' = .returned (.int .i64 f) ∧ Below w.heap.size w w' := by
  rcases h with ⟨rfl, rfl⟩ | rfl
  · exact num_nil w
  · exact num_err f w hg
end Go.Proofs.YtdgcghknfhhkiaaDoor
