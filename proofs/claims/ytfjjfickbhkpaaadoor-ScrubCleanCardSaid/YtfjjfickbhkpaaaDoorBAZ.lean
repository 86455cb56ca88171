/-
  A slice of bytes as an argument, with its reach.
  Pages in memory, as an argument.
-/
import Derived.Test.YtfjjfickbhkpaaaDoorMemZ
import Derived.Test.YtfjjfickbhkpaaaDoorGr
namespace Go.Proofs.YtfjjfickbhkpaaaDoor
open Go Go.RowKit

/-- A slice of bytes as an argument. -/
structure BA (w : World) (v : Value) (l : List Nat) : Prop where
  ex : ∃ a c, v = .slice a l.length c ∧ Src w a l ∧ l.length ≤ c ∧ c ≤ 140737488355328
  b8 : B8 l
theorem BA.below {w w' : World} {B : Nat} {v : Value} {l : List Nat} (h : BA w v l) (hb : Below B w w') (hB : w.heap.size ≤ B) : BA w' v l := by
  obtain ⟨a, c, rfl, hs, h1, h2⟩ := h.ex
  exact ⟨⟨a, c, rfl, hs.below hb hB, h1, h2⟩, h.b8⟩
theorem BA.ext {w w' : World} {v : Value} {l : List Nat} (h : BA w v l) (hb : Ext w w') : BA w' v l := h.below hb (Nat.le_refl _)
theorem BA.none (w : World) : BA w (.slice none 0 0) [] := ⟨⟨Option.none, 0, rfl, Src.nil _ _, by decide, by decide⟩, B8.nil⟩
end Go.Proofs.YtfjjfickbhkpaaaDoor
namespace Go.Proofs.YtfjjfickbhkpaaaDoor
open Go Go.RowKit

/-- The pages. -/
def PgIn (w : World) (a : Option Addr) (P : List (List Nat)) : Prop := ∀ i, i < P.length → ∃ g o v, a = some ⟨g, o, none⟩ ∧ w.cell? ⟨g, o + i, none⟩ = some v ∧ BA w v (P.getD i [])
theorem PgIn.below {w w' : World} {B : Nat} {a : Option Addr} {P : List (List Nat)} (h : PgIn w a P) (hb : Below B w w') (hB : w.heap.size ≤ B) : PgIn w' a P := fun i hi => by
  obtain ⟨g, o, v, ha, hc, hv⟩ := h i hi
  exact ⟨g, o, v, ha, by rw [hb.cell (p := ⟨g, o + i, none⟩) (Nat.lt_of_lt_of_le (block_lt_of_cell hc) hB)]; exact hc, hv.below hb hB⟩
/-- A slice of bytes of whatever reach. -/
structure BW (w : World) (v : Value) (l : List Nat) : Prop where
  ex : ∃ a c, v = .slice a l.length c ∧ Src w a l ∧ l.length ≤ c ∧ c ≤ 9223372036854775807
  b8 : B8 l
theorem BW.below {w w' : World} {B : Nat} {v : Value} {l : List Nat} (h : BW w v l) (hb : Below B w w') (hB : w.heap.size ≤ B) : BW w' v l := by
  obtain ⟨a, c, rfl, hs, h1, h2⟩ := h.ex
  exact ⟨⟨a, c, rfl, hs.below hb hB, h1, h2⟩, h.b8⟩
theorem BW.ext {w w' : World} {v : Value} {l : List Nat} (h : BW w v l) (hb : Ext w w') : BW w' v l := h.below hb (Nat.le_refl _)
theorem BA.bw {w : World} {v : Value} {l : List Nat} (h : BA w v l) : BW w v l := by
  obtain ⟨a, c, rfl, hs, h1, h2⟩ := h.ex
  exact ⟨⟨a, c, rfl, hs, h1, by omega⟩, h.b8⟩
/-- Pages of whatever reach. -/
def PgW (w : World) (a : Option Addr) (P : List (List Nat)) : Prop := ∀ i, i < P.length → ∃ g o v, a = some ⟨g, o, none⟩ ∧ w.cell? ⟨g, o + i, none⟩ = some v ∧ BW w v (P.getD i [])
theorem PgW.below {w w' : World} {B : Nat} {a : Option Addr} {P : List (List Nat)} (h : PgW w a P) (hb : Below B w w') (hB : w.heap.size ≤ B) : PgW w' a P := fun i hi => by
  obtain ⟨g, o, v, ha, hc, hv⟩ := h i hi
  exact ⟨g, o, v, ha, by rw [hb.cell (p := ⟨g, o + i, none⟩) (Nat.lt_of_lt_of_le (block_lt_of_cell hc) hB)]; exact hc, hv.below hb hB⟩
theorem PgIn.pgw {w : World} {a : Option Addr} {P : List (List Nat)} (h : PgIn w a P) : PgW w a P := fun i hi => by
  obtain ⟨g, o, v, ha, hc, hv⟩ := h i hi
  exact ⟨g, o, v, ha, hc, hv.bw⟩
/-- Pages, an empty slice of which has no reach. -/
def PgZ (w : World) (a : Option Addr) (P : List (List Nat)) : Prop := ∀ i, i < P.length → ∃ g o ad m cc, a = some ⟨g, o, none⟩ ∧ w.cell? ⟨g, o + i, none⟩ = some (.slice ad m cc) ∧ (ad = none → cc = 0) ∧ BA w (.slice ad m cc) (P.getD i [])
theorem PgZ.below {w w' : World} {B : Nat} {a : Option Addr} {P : List (List Nat)} (h : PgZ w a P) (hb : Below B w w') (hB : w.heap.size ≤ B) : PgZ w' a P := fun i hi => by
  obtain ⟨g, o, ad, m, cc, ha, hc, hz, hv⟩ := h i hi
  exact ⟨g, o, ad, m, cc, ha, by rw [hb.cell (p := ⟨g, o + i, none⟩) (Nat.lt_of_lt_of_le (block_lt_of_cell hc) hB)]; exact hc, hz, hv.below hb hB⟩
theorem PgZ.pgIn {w : World} {a : Option Addr} {P : List (List Nat)} (h : PgZ w a P) : PgIn w a P := fun i hi => by
  obtain ⟨g, o, ad, m, cc, ha, hc, _, hv⟩ := h i hi
  exact ⟨g, o, _, ha, hc, hv⟩
end Go.Proofs.YtfjjfickbhkpaaaDoor
