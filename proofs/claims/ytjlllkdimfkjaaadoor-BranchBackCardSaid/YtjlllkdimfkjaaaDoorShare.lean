/-
  One proof for several ways; a function's result that is one cell; what turned a block of the call's own. No program.
-/
import Derived.Test.YtjlllkdimfkjaaaDoorTurn
import Derived.Laws.ResultCell
namespace Go.Proofs.YtjlllkdimfkjaaaDoor
open Go Go.RowKit

/-- One proof for several ways. -/
theorem share {G T : Prop} (k : G) (h : G → T) : T := h k
theorem results_cell_one {fn : Func} {p : Tmp} {ty : TypeId} (h : fn.results = #[.cell p ty]) (tmps : Array Value) (P : Program) (w : World) :
    (results fn tmps).run P w = ((asAddr (tmps.getD p undef)).run P w).andThen fun a w₁ => (loadVar ty a).run P w₁ := by
  simp only [results, h]
  simp [Sem.run_bind]
/-- What turned a block of the call's own left what was there. -/
theorem Turn.own {w w1 w2 : World} {b B : Nat} (hb : Below B w w1) (t : Turn (fun i => i = b) w1 w2) (hB : B ≤ b) (hz : B ≤ w.heap.size) : Below B w w2 :=
  hb.trans (t.below (Nat.le_trans hz hb.size) (fun i hi => by rw [hi]; exact hB))
end Go.Proofs.YtjlllkdimfkjaaaDoor
