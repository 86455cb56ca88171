/-
  Several blocks laid one behind the other.
  A block that holds an entry.
-/
import Derived.Test.YtlkadhdcapcocaaDoorTreeZ
namespace Go.Proofs.YtlkadhdcapcocaaDoor
open Go Go.RowKit

theorem alloc_size (w : World) (o : Obj) : (w.alloc o).heap.size = w.heap.size + 1 := by simp
theorem three_own (w : World) (c1 c2 c3 : Array Value) (T1 T2 T3 : TypeId) : ∃ W, ((w.alloc (.cells c1 T1)).alloc (.cells c2 T2)).alloc (.cells c3 T3) = W ∧
    W.heap[w.heap.size]? = some (.cells c1 T1 (0, 0)) ∧ W.heap[w.heap.size + 1]? = some (.cells c2 T2 (0, 0)) ∧ W.heap[w.heap.size + 1 + 1]? = some (.cells c3 T3 (0, 0)) ∧ Below w.heap.size w W ∧ W.heap.size = w.heap.size + 3 := by
  obtain ⟨W1, hW1, h1, b1⟩ := alloc_own w T1 c1
  obtain ⟨W2, hW2, h2, b2⟩ := alloc_own W1 T2 c2
  obtain ⟨W3, hW3, h3, b3⟩ := alloc_own W2 T3 c3
  have z1 : W1.heap.size = w.heap.size + 1 := by rw [← hW1]; exact alloc_size _ _
  have z2 : W2.heap.size = w.heap.size + 1 + 1 := by rw [← hW2, alloc_size, z1]
  have z3 : W3.heap.size = w.heap.size + 1 + 1 + 1 := by rw [← hW3, alloc_size, z2]
  rw [z1] at h2
  rw [z2] at h3
  refine ⟨W3, by rw [hW1, hW2, hW3], ?_, ?_, h3, (b1.trans (b2.mono (by omega))).trans (b3.mono (by omega)), z3⟩
  · rw [b3.block _ (by omega), b2.block _ (by omega)]; exact h1
  · rw [b3.block _ (by omega)]; exact h2
theorem five_own (w : World) (c1 c2 c3 c4 c5 : Array Value) (T1 T2 T3 T4 T5 : TypeId) : ∃ W, ((((w.alloc (.cells c1 T1)).alloc (.cells c2 T2)).alloc (.cells c3 T3)).alloc (.cells c4 T4)).alloc (.cells c5 T5) = W ∧
    W.heap[w.heap.size]? = some (.cells c1 T1 (0, 0)) ∧ W.heap[w.heap.size + 1]? = some (.cells c2 T2 (0, 0)) ∧ W.heap[w.heap.size + 1 + 1]? = some (.cells c3 T3 (0, 0)) ∧ W.heap[w.heap.size + 1 + 1 + 1]? = some (.cells c4 T4 (0, 0)) ∧ W.heap[w.heap.size + 1 + 1 + 1 + 1]? = some (.cells c5 T5 (0, 0)) ∧ Below w.heap.size w W ∧ W.heap.size = w.heap.size + 5 := by
  obtain ⟨W3, hW3, h1, h2, h3, b3, z3⟩ := three_own w c1 c2 c3 T1 T2 T3
  obtain ⟨W4, hW4, h4, b4⟩ := alloc_own W3 T4 c4
  obtain ⟨W5, hW5, h5, b5⟩ := alloc_own W4 T5 c5
  have z4 : W4.heap.size = w.heap.size + 1 + 1 + 1 + 1 := by rw [← hW4, alloc_size, z3]
  have z5 : W5.heap.size = w.heap.size + 5 := by rw [← hW5, alloc_size, z4]
  rw [z3] at h4
  rw [z4] at h5
  refine ⟨W5, by rw [hW3, hW4, hW5], ?_, ?_, ?_, ?_, h5, (b3.trans (b4.mono (by omega))).trans (b5.mono (by omega)), z5⟩
  · rw [b5.block _ (by omega), b4.block _ (by omega)]; exact h1
  · rw [b5.block _ (by omega), b4.block _ (by omega)]; exact h2
  · rw [b5.block _ (by omega), b4.block _ (by omega)]; exact h3
  · rw [b5.block _ (by omega)]; exact h4
abbrev IT : TypeId := 3
abbrev BT : TypeId := 4
end Go.Proofs.YtlkadhdcapcocaaDoor
namespace Go.Proofs.YtlkadhdcapcocaaDoor
open Go Go.RowKit

/-- A block that holds an entry. -/
def EB (w : World) (b : Nat) (y : En) : Prop := w.heap[b]? = some (.cells #[.string y.k, .string y.v] ET (0, 0))
section
variable {w : World} {b : Nat} {y : En}
theorem EB.c0 (h : EB w b y) : w.cell? ⟨b, 0, none⟩ = some (.string y.k) := by
  have h' : w.heap[b]? = _ := h
  simp [World.cell?, h']
theorem EB.c1 (h : EB w b y) : w.cell? ⟨b, 1, none⟩ = some (.string y.v) := by
  have h' : w.heap[b]? = _ := h
  simp [World.cell?, h']
theorem EB.fz (h : EB w b y) (j : Nat) : w.frozen? ⟨b, j, none⟩ = false := by
  have h' : w.heap[b]? = _ := h
  simp [World.frozen?, h']
theorem EB.lt (h : EB w b y) : b < w.heap.size := (Array.getElem?_eq_some_iff.1 h).1
theorem EB.ext {w' : World} (h : EB w b y) (hb : Below w.heap.size w w') : EB w' b y := (hb.block b h.lt).trans h
theorem EB.put (h : EB w b y) (z : En) : EB ((w.setCell ⟨b, 0, none⟩ (.string z.k)).setCell ⟨b, 1, none⟩ (.string z.v)) b z :=
  heap_setCell_same _ b 1 _ _ _ (heap_setCell_same w b 0 _ _ _ h)
end
def E0 : En := ⟨⟨#[]⟩, ⟨#[]⟩⟩
theorem ea_nil (i : Nat) : ea [] i = E0 := by unfold ea; simp; rfl
end Go.Proofs.YtlkadhdcapcocaaDoor
