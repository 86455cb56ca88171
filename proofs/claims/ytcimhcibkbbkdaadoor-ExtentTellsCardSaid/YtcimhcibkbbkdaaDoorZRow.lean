/-
  A row of ints of the call's own, whole: made, read, changed at a place.
-/
import Derived.Test.YtcimhcibkbbkdaaDoorPages
namespace Go.Proofs.YtcimhcibkbbkdaaDoor
open Go Go.RowKit

abbrev ZT : TypeId := 3
abbrev SZT : TypeId := 44
/-- Block g is a row of these ints, nothing of it frozen. -/
def ZRow (w : World) (g : Nat) (l : List Int) : Prop := w.heap[g]? = some (.cells (iv l).toArray ZT (0, 0))
theorem iv_len (l : List Int) : (iv l).length = l.length := by simp
theorem iv_set (l : List Int) (i : Nat) (x : Int) : (iv l).set i (.int .i64 x) = iv (l.set i x) := by simp [iv, List.map_set]
theorem zrow_of_own {w : World} {B E g n : Nat} {xs : List Value} (h : w.ownsRow B E 1 (.slice (some ⟨g, 0, none⟩) n n) n xs) : w.heap[g]? = some (.cells xs.toArray E (0, 0)) := row_of_own h
theorem own_of_zrow {w : World} {B g : Nat} {l : List Int} (h : ZRow w g l) (hB : B ≤ g) (hm : l.length ≤ maxLen) : w.ownsRow B ZT 1 (.slice (some ⟨g, 0, none⟩) l.length l.length) l.length (iv l) :=
  ⟨by simp, .inr ⟨g, l.length, (iv l).toArray, rfl, hB, h, Nat.le_refl _, hm, by simp, by simp [List.take_of_length_le]⟩⟩
theorem ZRow.cell {w : World} {g : Nat} {l : List Int} (h : ZRow w g l) (i : Nat) (hi : i < l.length) : w.cell? ⟨g, i, none⟩ = some (.int .i64 (ia l i)) := by
  have h' : w.heap[g]? = some (.cells (iv l).toArray ZT (0, 0)) := h
  have := iv_get l i hi
  simp only [World.cell?, h']
  simpa using this
theorem ZRow.frozen {w : World} {g : Nat} {l : List Int} (h : ZRow w g l) (i : Nat) : w.frozen? ⟨g, i, none⟩ = false := by
  have h' : w.heap[g]? = some (.cells (iv l).toArray ZT (0, 0)) := h
  simp [World.frozen?, h']
theorem ZRow.lt {w : World} {g : Nat} {l : List Int} (h : ZRow w g l) : g < w.heap.size := by
  have h' : w.heap[g]? = some (.cells (iv l).toArray ZT (0, 0)) := h
  rcases Nat.lt_or_ge g w.heap.size with h1 | h1
  · exact h1
  · rw [Array.getElem?_eq_none h1] at h'; cases h'
theorem ZRow.set {w : World} {g : Nat} {l : List Int} (h : ZRow w g l) (i : Nat) (x : Int) : ZRow (w.setCell ⟨g, i, none⟩ (.int .i64 x)) g (l.set i x) := by
  have h' : w.heap[g]? = some (.cells (iv l).toArray ZT (0, 0)) := h
  have := heap_setCell_same w g i (iv l).toArray ZT (.int .i64 x) h'
  unfold ZRow
  rw [this, ← iv_set]
  simp
theorem ZRow.below {w w' : World} {g B : Nat} {l : List Int} (h : ZRow w g l) (hb : Below B w w') (hg : g < B) : ZRow w' g l := (hb.block g hg).trans h
theorem ZRow.alloc {w : World} {g : Nat} {l : List Int} (h : ZRow w g l) (o : Obj) : ZRow (w.alloc o) g l := h.below ((Below.refl w.heap.size w).alloc (Nat.le_refl _) o) h.lt
theorem made_ints (n : Nat) : (madeCells (Value.int .i64 0).cells (n * 1)).toList = iv (List.replicate n 0) := by
  rw [show iv (List.replicate n (0 : Int)) = List.replicate n (Value.int .i64 0) by simp]; show (madeCells #[Value.int .i64 0] (n * 1)).toList = _
  rw [toList_madeCells_one, Nat.mul_one]
section
variable {P : Program} {w : World} {ops : Array Oper} {rest : List Oper} {o : Oper} {a : Act} {Q : Exit → Act → World → Prop}
theorem wpList_make_ints (hg : o.guard = none) (l c : Operand) (t : TypeId) (hop : o.op = Op.makeSlice t l c)
    (h1 : P.underlying t = some (.slice ZT)) (h2 : (P.info? ZT).map (fun i => (i.zero, i.size, i.bytes)) = some (some (.int .i64 0), 1, 8))
    (kl kc : IntKind) (L C : Int) (n : Nat) (hl : a.eval l = .int kl L) (hc : a.eval c = .int kc C) (hL : L = (n : Int)) (hC : C = (n : Int)) (b : n * 8 ≤ 140737488355328)
    (hK : ∀ w', Hid (ZRow w' w.heap.size (List.replicate n 0)) → Below w.heap.size w w' → wpList P ops Q rest (a.put o.dst (.slice (some ⟨w.heap.size, 0, none⟩) n n)) w') :
    wpList P ops Q (o :: rest) a w := by
  obtain ⟨i0, hi, hz0, hz1, hz2⟩ := info_parts h2
  refine wpList_make_full w hg l c t hop w.heap.size ZT i0 (.int .i64 0) 1 h1 hi hz0 hz1 kl kc L C n hl hc hL hC (by rw [hz2]; omega) (by unfold maxLen; omega) (Nat.le_refl _) ?_
  intro w1 hown hgrow
  refine hK w1 ?_ ((Below.refl w.heap.size w).grown hgrow (Nat.le_refl _) (by intro k hk; cases hk))
  show w1.heap[w.heap.size]? = _
  rw [← made_ints]; exact zrow_of_own hown
end
end Go.Proofs.YtcimhcibkbbkdaaDoor
