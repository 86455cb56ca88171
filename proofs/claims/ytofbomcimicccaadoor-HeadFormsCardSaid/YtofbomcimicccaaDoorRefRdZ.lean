/-
  The document's reader, a value: Done, Byte.
-/
import Derived.Test.YtofbomcimicccaaDoorRdNumZ
import Derived.Test.YtofbomcimicccaaDoorTurnZ
import Derived.Test.YtofbomcimicccaaDoorVarRefZ
import Derived.Laws.ResultCell
namespace Go.Proofs.YtofbomcimicccaaDoor
open Go Go.RowKit

abbrev RFT : TypeId := 69
/-- The document's reader. -/
structure Rf (w : World) (x : Value) (S : RS) : Prop where
  ex : ∃ v, x = .agg #[v, .bool S.wr] ∧ Sl w v S.l
  b8 : B8 S.l
  len : S.l.length ≤ 65536
  inv : S.wr = true → S.l = []
theorem Rf.below {w w' : World} {B : Nat} {x : Value} {S : RS} (h : Rf w x S) (hb : Below B w w') (hB : w.heap.size ≤ B) : Rf w' x S := by
  obtain ⟨v, h1, h2⟩ := h.ex
  exact ⟨⟨v, h1, h2.below hb hB⟩, h.b8, h.len, h.inv⟩
theorem Rf.turn {w w' : World} {b : Nat} {x : Value} {S : RS} (h : Rf w x S) (t : Turn (fun i => i = b) w w') (hn : NoByte w b) : Rf w' x S := by
  obtain ⟨v, h1, h2⟩ := h.ex
  exact ⟨⟨v, h1, h2.turn t hn⟩, h.b8, h.len, h.inv⟩
theorem Rf.wrong (w : World) : Rf w (.agg #[.slice none 0 0, .bool true]) ⟨[], true⟩ := ⟨⟨_, rfl, Sl.none _⟩, B8.nil, by simp, fun _ => rfl⟩
/-- A slice that reads as these bytes, wherever an empty one lies. -/
def Sw (w : World) (v : Value) (l : List Nat) : Prop := ∃ a c, v = .slice a l.length c ∧ Src w a l ∧ (a = none → c = 0) ∧ l.length ≤ c ∧ c ≤ maxLen
theorem Sl.sw {w : World} {v : Value} {l : List Nat} (h : Sl w v l) : Sw w v l := h.arg
theorem Sw.arg {w : World} {v : Value} {l : List Nat} (h : Sw w v l) : ∃ a c, v = .slice a l.length c ∧ Src w a l ∧ (a = none → c = 0) ∧ l.length ≤ c ∧ c ≤ maxLen := h
theorem Sw.sl {w : World} {v : Value} {l : List Nat} (h : Sw w v l) (h0 : l ≠ []) : Sl w v l := by
  obtain ⟨a, c, rfl, hs, _, h1, h2⟩ := h
  obtain ⟨g, o, rfl, hc⟩ := hs (List.length_pos_iff.2 h0)
  exact .inr ⟨g, o, c, rfl, hc, h1, h2⟩
theorem Sw.below {w w' : World} {v : Value} {l : List Nat} {B : Nat} (h : Sw w v l) (hb : Below B w w') (hB : w.heap.size ≤ B) : Sw w' v l := by
  obtain ⟨a, c, rfl, hs, hz, h1, h2⟩ := h
  exact ⟨a, c, rfl, hs.below hb hB, hz, h1, h2⟩
theorem Sw.turn {w w' : World} {b : Nat} {v : Value} {l : List Nat} (h : Sw w v l) (t : Turn (fun i => i = b) w w') (hn : NoByte w b) : Sw w' v l := by
  obtain ⟨a, c, rfl, hs, hz, h1, h2⟩ := h
  exact ⟨a, c, rfl, hs.turn t hn, hz, h1, h2⟩
/-- The document's reader, as an argument. -/
structure RfW (w : World) (x : Value) (S : RS) : Prop where
  ex : ∃ v, x = .agg #[v, .bool S.wr] ∧ Sw w v S.l
  b8 : B8 S.l
  len : S.l.length ≤ 65536
  inv : S.wr = true → S.l = []
theorem Rf.weak {w : World} {x : Value} {S : RS} (h : Rf w x S) : RfW w x S := by
  obtain ⟨v, h1, h2⟩ := h.ex
  exact ⟨⟨v, h1, h2.sw⟩, h.b8, h.len, h.inv⟩
theorem RfW.below {w w' : World} {B : Nat} {x : Value} {S : RS} (h : RfW w x S) (hb : Below B w w') (hB : w.heap.size ≤ B) : RfW w' x S := by
  obtain ⟨v, h1, h2⟩ := h.ex
  exact ⟨⟨v, h1, h2.below hb hB⟩, h.b8, h.len, h.inv⟩
theorem two_new (w : World) (T : TypeId) (v1 v2 : Value) (x1 x2 : Bool) : Below w.heap.size w ((w.alloc (.cells #[v1, .bool x1] T)).alloc (.cells #[v2, .bool x2] T)).drew ∧
    SB ((w.alloc (.cells #[v1, .bool x1] T)).alloc (.cells #[v2, .bool x2] T)).drew w.heap.size T v1 x1 ∧ SB ((w.alloc (.cells #[v1, .bool x1] T)).alloc (.cells #[v2, .bool x2] T)).drew (w.heap.size + 1) T v2 x2 := by
  have hsz : (w.alloc (.cells #[v1, .bool x1] T)).heap.size = w.heap.size + 1 := by simp
  refine ⟨(((Below.refl w.heap.size w).alloc (Nat.le_refl _) (.cells #[v1, .bool x1] T)).alloc (by omega) _).drew, ?_, ?_⟩
  · have h1 := SB.new w T v1 x1
    have hb : Below (w.heap.size + 1) (w.alloc (.cells #[v1, .bool x1] T)) ((w.alloc (.cells #[v1, .bool x1] T)).alloc (.cells #[v2, .bool x2] T)) := (Below.refl _ _).alloc (by omega) _
    have h3 := h1.below hb (by omega)
    exact h3
  · have h2 := SB.new (w.alloc (.cells #[v1, .bool x1] T)) T v2 x2
    rw [hsz] at h2
    exact h2
/-- Two rows are new, a call made memory, the first row is another one. -/
theorem ref_mid {w w2 : World} {a : Option Addr} {n c : Nat} {wr : Bool}
    (hb : Below ((w.alloc (.cells #[.slice a n c, .bool wr] RFT)).alloc (.cells #[.slice none 0 0, .bool false] RFT)).heap.size ((w.alloc (.cells #[.slice a n c, .bool wr] RFT)).alloc (.cells #[.slice none 0 0, .bool false] RFT)) w2) (v : Value) (y : Bool) :
    (SB w2 w.heap.size RFT (.slice a n c) wr ∧ NoByte w2 w.heap.size) ∧
    SB ((w2.setCell ⟨w.heap.size, 0, none⟩ v).setCell ⟨w.heap.size, 1, none⟩ (.bool y)) w.heap.size RFT v y ∧
    SB ((w2.setCell ⟨w.heap.size, 0, none⟩ v).setCell ⟨w.heap.size, 1, none⟩ (.bool y)) (w.heap.size + 1) RFT (.slice none 0 0) false ∧
    Below w.heap.size w ((w2.setCell ⟨w.heap.size, 0, none⟩ v).setCell ⟨w.heap.size, 1, none⟩ (.bool y)) := by
  obtain ⟨h1, h2, h3⟩ := two_new w RFT (.slice a n c) (.slice none 0 0) wr false
  have hz : w.heap.size + 2 = ((w.alloc (.cells #[.slice a n c, .bool wr] RFT)).alloc (.cells #[.slice none 0 0, .bool false] RFT)).heap.size := by simp
  have h1' : Below w.heap.size w ((w.alloc (.cells #[.slice a n c, .bool wr] RFT)).alloc (.cells #[.slice none 0 0, .bool false] RFT)) :=
    ((Below.refl w.heap.size w).alloc (Nat.le_refl _) (.cells #[.slice a n c, .bool wr] RFT)).alloc (by simp) _
  have h2' : SB ((w.alloc (.cells #[.slice a n c, .bool wr] RFT)).alloc (.cells #[.slice none 0 0, .bool false] RFT)) w.heap.size RFT (.slice a n c) wr := h2
  have h3' : SB ((w.alloc (.cells #[.slice a n c, .bool wr] RFT)).alloc (.cells #[.slice none 0 0, .bool false] RFT)) (w.heap.size + 1) RFT (.slice none 0 0) false := h3
  have k2 := h2'.below hb (by omega)
  have k3 := h3'.below hb (by omega)
  refine ⟨⟨k2, k2.noByte⟩, (k2.set0 v).set1 y, k3.turn (turn_set2 _ _ _ _) (by omega), ?_⟩
  exact Below.setCell (p := ⟨w.heap.size, 1, none⟩) (Below.setCell (p := ⟨w.heap.size, 0, none⟩) (h1'.trans (hb.mono (by omega))) (Nat.le_refl _) v) (Nat.le_refl _) _
end Go.Proofs.YtofbomcimicccaaDoor
