/-
  What the laws on trees have: a tree, its entries, a span.
-/
import Derived.Test.YtggibbgohhpfpaaDoorNearZ
import Derived.Test.YtggibbgohhpfpaaDoorRefRowsZ
import Derived.Test.YtggibbgohhpfpaaDoorGathZ
import Derived.Test.YtggibbgohhpfpaaDoorGrownZ
namespace Go.Proofs.YtggibbgohhpfpaaDoor
open Go Go.RowKit

/-- The tree and its entries. -/
structure CT (w0 w : World) (bt : Nat) (p : Option Addr) (es : List En) (n H : Nat) (a : Option Addr) (c : Nat) : Prop where
  t : TB w bt p n
  tr : TreeP w p es H
  l : ES entE w a es
  hn : es.length = n
  hl : n ≤ 200
  hc : (a = none → c = 0) ∧ n ≤ c ∧ c ≤ maxLen
  b : Below w0.heap.size w0 w
theorem CT.ext {w0 w w' : World} {bt n H c : Nat} {p a : Option Addr} {es : List En} (h : CT w0 w bt p es n H a c) (hb : Below w.heap.size w w') : CT w0 w' bt p es n H a c :=
  ⟨h.t.ext hb, h.tr.ext hb, h.l.below hb (Nat.le_refl _), h.hn, h.hl, h.hc, h.b.trans (hb.mono h.b.size)⟩
/-- A tree in a variable. -/
structure UT (w : World) (bu : Nat) (p : Option Addr) (es : List En) (n H : Nat) : Prop where
  t : TB w bu p n
  tr : TreeP w p es H
  hn : es.length = n
theorem UT.ext {w w' : World} {bu n H : Nat} {p : Option Addr} {es : List En} (h : UT w bu p es n H) (hb : Below w.heap.size w w') : UT w' bu p es n H := ⟨h.t.ext hb, h.tr.ext hb, h.hn⟩
/-- A slice of entries. -/
structure LT (w : World) (a : Option Addr) (es : List En) (n : Nat) : Prop where
  s : ES entE w a es
  hn : es.length = n
theorem LT.ext {w w' : World} {a : Option Addr} {es : List En} {n : Nat} (h : LT w a es n) (hb : Below w.heap.size w w') : LT w' a es n := ⟨h.s.below hb (Nat.le_refl _), h.hn⟩
theorem ev_lt {w : World} {v : Value} {es : List En} (h : EV entE w v es) : ∃ a n c, v = .slice a n c ∧ LT w a es n := by
  obtain ⟨a, c, rfl, hs, _⟩ := h
  exact ⟨a, _, c, rfl, hs, rfl⟩
theorem ev_ct {w : World} {v : Value} {es : List En} (h : EV entE w v es) : ∃ a n c, v = .slice a n c ∧ ES entE w a es ∧ es.length = n ∧ (a = none → c = 0) ∧ n ≤ c ∧ c ≤ maxLen := by
  obtain ⟨a, c, rfl, hs, h1⟩ := h
  exact ⟨a, _, c, rfl, hs, rfl, h1⟩
theorem LT.ents {w : World} {a : Option Addr} {es : List En} {n : Nat} (h : LT w a es n) (h0 : 0 < n) : ∃ g o, a = some ⟨g, o, none⟩ ∧ ∀ i, i < n → w.cell? ⟨g, o + i * 2, none⟩ = some (.string (ea es i).k) ∧ w.cell? ⟨g, o + i * 2 + 1, none⟩ = some (.string (ea es i).v) := by
  obtain ⟨g, o, h1, h2⟩ := h.s.ents (by rw [h.hn]; exact h0)
  exact ⟨g, o, h1, fun i hi => h2 i (by rw [h.hn]; exact hi)⟩
/-- A span stored anew. -/
theorem SpIn.put3 {w : World} {b : Nat} {T : TypeId} {s : Sp} (h : SpIn w b T s) (z : Sp) : SpIn (((w.setCell ⟨b, 0, none⟩ (.string z.lo)).setCell ⟨b, 1, none⟩ (.string z.hi)).setCell ⟨b, 2, none⟩ (.bool z.op)) b T z :=
  heap_setCell_same _ b 2 _ _ _ (heap_setCell_same _ b 1 _ _ _ (heap_setCell_same w b 0 _ _ _ h))
theorem turn3 (W : World) (b : Nat) (u v x : Value) : Turn (fun i => i = b) W (((W.setCell ⟨b, 0, none⟩ u).setCell ⟨b, 1, none⟩ v).setCell ⟨b, 2, none⟩ x) :=
  (((Turn.refl (fun i => i = b) W).setCell (p := ⟨b, 0, none⟩) u (fun _ => rfl)).setCell (p := ⟨b, 1, none⟩) v (fun _ => rfl)).setCell (p := ⟨b, 2, none⟩) x (fun _ => rfl)
theorem CT.turn {w0 w w' : World} {bt n H c b : Nat} {p a : Option Addr} {es : List En} (h : CT w0 w bt p es n H a c) (t : Turn (fun i => i = b) w w') (hF : TF w (fun i => i = b)) (hb : bt ≠ b) (hlo : w0.heap.size ≤ b) : CT w0 w' bt p es n H a c :=
  ⟨h.t.turn t hb, h.tr.turn t hF, h.l.turn entE_str t hF, h.hn, h.hl, h.hc, h.b.trans (t.below h.b.size (fun i hi => by omega))⟩
theorem CT.ok {w0 w : World} {bt n H c : Nat} {p a : Option Addr} {es : List En} (h : CT w0 w bt p es n H a c) : ∀ e ∈ es, okE e := h.tr.facts.2
theorem CT.srt {w0 w : World} {bt n H c : Nat} {p a : Option Addr} {es : List En} (h : CT w0 w bt p es n H a c) : srt es := h.tr.facts.1
theorem rows_all {s : Sp} {es : List En} {back : Bool} (h : es.length ≤ 5000) : rowsL s es 5000 back = turnB back (inS s es) := by
  unfold rowsL
  rw [in_turn, List.take_of_length_le]
  rw [turn_len]; exact Nat.le_trans (inS_len s es) h
theorem rows_len (s : Sp) (es : List En) (most : Int) (back : Bool) : (rowsL s es most back).length ≤ es.length := by
  unfold rowsL
  rw [in_turn, List.length_take, turn_len]
  have := inS_len s es; omega
theorem outS_len (s : Sp) (es : List En) : (outS s es).length ≤ es.length := List.length_filter_le ..
end Go.Proofs.YtggibbgohhpfpaaDoor
