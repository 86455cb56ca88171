/-
  What the laws on pieces of trees have: what is asked.
-/
import Derived.Test.YtimdlgjgoggaiaaDoorLawTreeZ
import Derived.Test.YtimdlgjgoggaiaaDoorSure13Z
import Derived.Test.YtimdlgjgoggaiaaDoorAreZ
namespace Go.Proofs.YtimdlgjgoggaiaaDoor
open Go Go.RowKit

abbrev ASK : TypeId := 27
/-- A block that holds what is asked. -/
def AB (w : World) (b : Nat) (most : Int) (back : Bool) (x y : Nat) : Prop := w.heap[b]? = some (.cells #[.int .i64 most, .bool back, .int .u16 x, .int .u16 y] ASK (0, 0))
section
variable {w : World} {b : Nat} {most : Int} {back : Bool} {x y : Nat}
theorem AB.c0 (h : AB w b most back x y) : w.cell? ⟨b, 0, none⟩ = some (.int .i64 most) := by
  have h' : w.heap[b]? = _ := h
  simp [World.cell?, h']
theorem AB.c1 (h : AB w b most back x y) : w.cell? ⟨b, 1, none⟩ = some (.bool back) := by
  have h' : w.heap[b]? = _ := h
  simp [World.cell?, h']
theorem AB.c2 (h : AB w b most back x y) : w.cell? ⟨b, 2, none⟩ = some (.int .u16 x) := by
  have h' : w.heap[b]? = _ := h
  simp [World.cell?, h']
theorem AB.c3 (h : AB w b most back x y) : w.cell? ⟨b, 3, none⟩ = some (.int .u16 y) := by
  have h' : w.heap[b]? = _ := h
  simp [World.cell?, h']
theorem AB.lt (h : AB w b most back x y) : b < w.heap.size := (Array.getElem?_eq_some_iff.1 h).1
theorem AB.ext {w' : World} (h : AB w b most back x y) (hb : Below w.heap.size w w') : AB w' b most back x y := (hb.block b h.lt).trans h
end
theorem AB.turn {w w' : World} {ba b : Nat} {most : Int} {back : Bool} {x y : Nat} (h : AB w ba most back x y) (t : Turn (fun i => i = b) w w') (hb : ba ≠ b) : AB w' ba most back x y := t.hg h hb
end Go.Proofs.YtimdlgjgoggaiaaDoor
