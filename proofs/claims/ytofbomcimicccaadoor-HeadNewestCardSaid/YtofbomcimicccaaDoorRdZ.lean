/-
  A reader of fields in memory: its row; New, spoil, take.
-/
import Derived.Test.YtofbomcimicccaaDoorCloZ
import Derived.Test.YtofbomcimicccaaDoorMath1Z
import Derived.Test.YtofbomcimicccaaDoorTurnZ
import Derived.Test.YtofbomcimicccaaDoorVar1Z
import Derived.WalkKit
import Derived.Lib.Hide
namespace Go.Proofs.YtofbomcimicccaaDoor
open Go Go.RowKit

abbrev RT : TypeId := 85
/-- No cell of a block is a byte. -/
def NoByte (w : World) (b : Nat) : Prop := ∀ j x, w.cell? ⟨b, j, none⟩ ≠ some (.int .u8 x)
theorem Cs.turn {w w' : World} {g o b : Nat} {l : List Nat} (h : Cs w g o l) (t : Turn (fun i => i = b) w w') (hn : NoByte w b) : Cs w' g o l := fun i hi => by
  have hc := h i hi
  have hne : g ≠ b := fun e => by subst e; exact hn _ _ hc
  rw [t.cell (p := ⟨g, o + i, none⟩) (block_lt_of_cell hc) hne]
  exact hc
theorem Sl.turn {w w' : World} {b : Nat} {v : Value} {l : List Nat} (h : Sl w v l) (t : Turn (fun i => i = b) w w') (hn : NoByte w b) : Sl w' v l := by
  rcases h with h | ⟨g, o, c, rfl, hc, h1, h2⟩
  · exact .inl h
  · exact .inr ⟨g, o, c, rfl, hc.turn t hn, h1, h2⟩
theorem Src.turn {w w' : World} {b : Nat} {a : Option Addr} {l : List Nat} (h : Src w a l) (t : Turn (fun i => i = b) w w') (hn : NoByte w b) : Src w' a l := fun h0 => by
  obtain ⟨g, o, rfl, hc⟩ := h h0
  exact ⟨g, o, rfl, hc.turn t hn⟩
/-- A row of a slice and a bool. -/
def SB (w : World) (b : Nat) (T : TypeId) (v : Value) (x : Bool) : Prop := w.heap[b]? = some (.cells #[v, .bool x] T (0, 0))
theorem SB.c0 {w : World} {b : Nat} {T : TypeId} {v : Value} {x : Bool} (h : SB w b T v x) : w.cell? ⟨b, 0, none⟩ = some v := by
  have h' : w.heap[b]? = _ := h
  simp [World.cell?, h']
theorem SB.c1 {w : World} {b : Nat} {T : TypeId} {v : Value} {x : Bool} (h : SB w b T v x) : w.cell? ⟨b, 1, none⟩ = some (.bool x) := by
  have h' : w.heap[b]? = _ := h
  simp [World.cell?, h']
theorem SB.fz {w : World} {b : Nat} {T : TypeId} {v : Value} {x : Bool} (h : SB w b T v x) (j : Nat) : w.frozen? ⟨b, j, none⟩ = false := by
  have h' : w.heap[b]? = _ := h
  simp [World.frozen?, h']
theorem SB.lt {w : World} {b : Nat} {T : TypeId} {v : Value} {x : Bool} (h : SB w b T v x) : b < w.heap.size := (Array.getElem?_eq_some_iff.1 h).1
theorem SB.noByte {w : World} {b : Nat} {T : TypeId} {a : Option Addr} {n c : Nat} {x : Bool} (h : SB w b T (.slice a n c) x) : NoByte w b := fun j y hj => by
  have h' : w.heap[b]? = _ := h
  simp only [World.cell?, h'] at hj
  rcases j with _ | _ | j <;> simp at hj
theorem SB.set0 {w : World} {b : Nat} {T : TypeId} {v : Value} {x : Bool} (h : SB w b T v x) (u : Value) : SB (w.setCell ⟨b, 0, none⟩ u) b T u x := heap_setCell_same w b 0 _ _ _ h
theorem SB.set1 {w : World} {b : Nat} {T : TypeId} {v : Value} {x : Bool} (h : SB w b T v x) (y : Bool) : SB (w.setCell ⟨b, 1, none⟩ (.bool y)) b T v y := heap_setCell_same w b 1 _ _ _ h
theorem SB.new (w : World) (T : TypeId) (v : Value) (x : Bool) : SB (w.alloc (.cells #[v, .bool x] T)) w.heap.size T v x := by
  show (w.heap.push _)[w.heap.size]? = _; rw [Array.getElem?_push_size]
theorem SB.below {w w' : World} {b B : Nat} {T : TypeId} {v : Value} {x : Bool} (h : SB w b T v x) (hb : Below B w w') (hB : b < B) : SB w' b T v x := (hb.block b hB).trans h
theorem SB.turn {w w' : World} {b : Nat} {F : Nat → Prop} {T : TypeId} {v : Value} {x : Bool} (h : SB w b T v x) (t : Turn F w w') (hF : ¬ F b) : SB w' b T v x := t.hg h hF
/-- A reader. -/
structure Rd (w : World) (b : Nat) (S : RS) : Prop where
  ex : ∃ v, SB w b RT v S.wr ∧ Sl w v S.l
  b8 : B8 S.l
  len : S.l.length ≤ 65536
  inv : S.wr = true → S.l = []
theorem Rd.lt {w : World} {b : Nat} {S : RS} (h : Rd w b S) : b < w.heap.size := by obtain ⟨v, h1, _⟩ := h.ex; exact h1.lt
theorem Rd.noByte {w : World} {b : Nat} {S : RS} (h : Rd w b S) : NoByte w b := by
  obtain ⟨v, h1, h2⟩ := h.ex
  obtain ⟨a, c, rfl, _⟩ := h2.arg
  exact h1.noByte
theorem Rd.below {w w' : World} {b B : Nat} {S : RS} (h : Rd w b S) (hb : Below B w w') (hB : w.heap.size ≤ B) : Rd w' b S := by
  obtain ⟨v, h1, h2⟩ := h.ex
  exact ⟨⟨v, h1.below hb (Nat.lt_of_lt_of_le h1.lt hB), h2.below hb hB⟩, h.b8, h.len, h.inv⟩
/-- Another block with no byte turns: the reader stays. -/
theorem Rd.turn {w w' : World} {b b' : Nat} {S : RS} (h : Rd w b S) (t : Turn (fun i => i = b') w w') (hne : b ≠ b') (hn : NoByte w b') : Rd w' b S := by
  obtain ⟨v, h1, h2⟩ := h.ex
  exact ⟨⟨v, h1.turn t hne, h2.turn t hn⟩, h.b8, h.len, h.inv⟩

theorem new_any (a : Option Addr) (n c : Nat) (l : List Nat) (hn : l.length = n) (w : World) (hs : Src w a l) (hz : a = none → c = 0) (hl : n ≤ 65536) (hb8 : B8 l) :
    Calls Tryd.prog 23 #[.slice a n c] w fun e w' => ∃ b, e = .returned (.pointer (some ⟨b, 0, none⟩)) ∧ w.heap.size ≤ b ∧ Rd w' b ⟨l, false⟩ ∧ Below w.heap.size w w' := by
  have h := clone_any a n c l hn w hs hz (by omega)
  have Hn := Lib.hid hn
  clear hs hz hn
  go_enter Tryd.func23, Tryd.ntmps23
  go_wp2_with fail
  refine h.mono ?_
  rintro e w1 ⟨v, rfl, hv, hb⟩
  obtain ⟨a1, c1, rfl, _⟩ := hv.arg
  have hv' := hv
  rw [Hn.out] at hv' ⊢
  have hb2 : Below w1.heap.size w1 (w1.alloc (.cells #[.slice a1 n c1, .bool false] RT)) := (Below.refl _ _).alloc (Nat.le_refl _) _
  have hr : Rd (w1.alloc (.cells #[.slice a1 n c1, .bool false] RT)) w1.heap.size ⟨l, false⟩ :=
    ⟨⟨_, SB.new w1 RT _ false, hv'.below hb2 (Nat.le_refl _)⟩, hb8, by show l.length ≤ _; rw [Hn.out]; exact hl, fun h => by cases h⟩
  have Hr := Lib.hid hr
  have Hb := Lib.hid (hb.trans (hb2.mono hb.size))
  have Hz := Lib.hid hb.size
  clear hv hv' hb hb2 hr h
  go_wp2
  go_ret
  exact ⟨_, rfl, Hz.out, Hr.out, Hb.out⟩
theorem turn_set1 (w : World) (b j : Nat) (u : Value) : Turn (fun i => i = b) w (w.setCell ⟨b, j, none⟩ u) := Turn.setCell (p := ⟨b, j, none⟩) (Turn.refl _ w) u (fun _ => rfl)
theorem turn_set2 (w : World) (b : Nat) (u v : Value) : Turn (fun i => i = b) w ((w.setCell ⟨b, 0, none⟩ u).setCell ⟨b, 1, none⟩ v) := Turn.setCell (p := ⟨b, 1, none⟩) (turn_set1 w b 0 u) v (fun _ => rfl)
theorem spoil_any (w : World) (b : Nat) (S : RS) (h : Rd w b S) :
    Calls Tryd.prog 42 #[.pointer (some ⟨b, 0, none⟩)] w fun e w' => e = .returned (.tuple #[]) ∧ Rd w' b ⟨[], true⟩ ∧ Turn (fun i => i = b) w w' := by
  obtain ⟨v, h1, h2⟩ := h.ex
  have f0 := h1.fz 0
  have f1 := h1.fz 1
  have c0 := h1.c0
  have c1 := h1.c1
  have hr : Hid (Rd ((w.setCell ⟨b, 0, none⟩ (.slice none 0 0)).setCell ⟨b, 1, none⟩ (.bool true)) b ⟨[], true⟩) :=
    ⟨⟨_, (h1.set0 (.slice none 0 0)).set1 true, Sl.none _⟩, B8.nil, by simp, fun _ => rfl⟩
  have ht : Hid (Turn (fun i => i = b) w ((w.setCell ⟨b, 0, none⟩ (.slice none 0 0)).setCell ⟨b, 1, none⟩ (.bool true))) :=
    turn_set2 w b _ _
  clear h h1 h2
  go_enter Tryd.func42, Tryd.ntmps42
  go_wp2
  go_end0
  exact ⟨rfl, hr.out, ht.out⟩
end Go.Proofs.YtofbomcimicccaaDoor
