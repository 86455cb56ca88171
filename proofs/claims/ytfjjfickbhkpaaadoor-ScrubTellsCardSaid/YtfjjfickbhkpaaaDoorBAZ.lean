/-
  A slice of bytes as an argument, with its reach.
-/
import Derived.Test.YtfjjfickbhkpaaaDoorMemZ
import Derived.Test.YtfjjfickbhkpaaaDoorGr
namespace Go.Proofs.YtfjjfickbhkpaaaDoor
open Go Go.RowKit

/-- A slice of bytes as an argument. -/
structure BA (w : World) (v : Value) (l : List Nat) : Prop where
  ex : ∃ a c, v = .slice a l.length c ∧ Src w a l ∧ l.length ≤ c ∧ c ≤ 140737488355328
  b8 : B8 l
theorem BA.below {w w' : World} {B : Nat} {v : Value} {l : List Nat} (h : BA w v l) (hb : Below B w w') (hB : w.heap.size ≤ B) : BA w' v l := by
  obtain ⟨a, c, rfl, hs, h1, h2⟩ := h.ex
  exact ⟨⟨a, c, rfl, hs.below hb hB, h1, h2⟩, h.b8⟩
theorem BA.ext {w w' : World} {v : Value} {l : List Nat} (h : BA w v l) (hb : Ext w w') : BA w' v l := h.below hb (Nat.le_refl _)
theorem BA.none (w : World) : BA w (.slice none 0 0) [] := ⟨⟨Option.none, 0, rfl, Src.nil _ _, by decide, by decide⟩, B8.nil⟩
end Go.Proofs.YtfjjfickbhkpaaaDoor
