/-
  Two or three spans made in one region that draws its order; what the laws keep.
-/
import Derived.Test.YtblebkgobhlonaaDoorSure7
import Derived.Test.YtblebkgobhlonaaDoorGs
namespace Go.Proofs.YtblebkgobhlonaaDoor
open Go Go.RowKit

theorem long_not {ss : List ByteArray} (h : longS ss = false) {s : ByteArray} (hs : s ∈ ss) : s.size ≤ 300 := by
  unfold longS at h
  rw [List.any_eq_false] at h
  have := h s hs
  unfold bigS at this
  simpa using this
/-- One proof for several ways. -/
theorem share {G T : Prop} (k : G) (h : G → T) : T := h k
/-- A span's row, made and not yet filled. -/
def zO : Obj := .cells #[.string ⟨#[]⟩, .string ⟨#[]⟩, .bool false] SPT
theorem SpIn.made (w : World) : SpIn (w.alloc zO).drew w.heap.size SPT Z0 := SpIn.new w SPT Z0
theorem SpIn.stay {w : World} {b : Nat} {T : TypeId} {s : Sp} (h : SpIn w b T s) (o : Obj) : SpIn (w.alloc o) b T s := h.below ((Below.refl _ _).alloc (Nat.le_refl _) o) h.lt
theorem SpIn.set2 {w : World} {b : Nat} {T : TypeId} {s : Sp} (h : SpIn w b T s) (x : Bool) : SpIn (w.setCell ⟨b, 2, none⟩ (.bool x)) b T ⟨s.lo, s.hi, x⟩ := heap_setCell_same w b 2 _ _ _ h
/-- A world in which a span was stored. -/
def filled (w : World) (b : Nat) (s : Sp) : World := ((w.setCell ⟨b, 0, none⟩ (.string s.lo)).setCell ⟨b, 1, none⟩ (.string s.hi)).setCell ⟨b, 2, none⟩ (.bool s.op)
theorem SpIn.filled {w : World} {b : Nat} {T : TypeId} {s0 : Sp} (h : SpIn w b T s0) (s : Sp) : SpIn (filled w b s) b T s := ((h.set0 s.lo).set1 s.hi).set2 s.op
theorem SpIn.filledOther {w : World} {b g : Nat} {T : TypeId} {s s2 : Sp} (h : SpIn w b T s) (hne : g ≠ b) : SpIn (Go.Proofs.YtblebkgobhlonaaDoor.filled w g s2) b T s := ((h.setOther hne).setOther hne).setOther hne
theorem filled_turn {F : Nat → Prop} {a w : World} {b : Nat} {s : Sp} (t : Turn F a w) (hF : F b) : Turn F a (filled w b s) :=
  ((t.setCell (p := ⟨b, 0, none⟩) _ (fun _ => hF)).setCell (p := ⟨b, 1, none⟩) _ (fun _ => hF)).setCell (p := ⟨b, 2, none⟩) _ (fun _ => hF)
theorem refHas_at (lo hi k : ByteArray) (op V : Bool) (w : World) (hk : k.size ≤ 1000000) (h : hasS ⟨lo, hi, op⟩ k = V) : Calls Tryd.prog 11 #[.agg #[.string lo, .string hi, .bool op], .string k] w fun e w' => e = .returned (.bool V) ∧ Below w.heap.size w w' := by
  subst h; exact refHas_any ⟨lo, hi, op⟩ k w hk
theorem refEmp_at (lo hi : ByteArray) (op V : Bool) (w : World) (hl : lo.size ≤ 1000000) (h : empS ⟨lo, hi, op⟩ = V) : Calls Tryd.prog 13 #[.agg #[.string lo, .string hi, .bool op]] w fun e w' => e = .returned (.bool V) ∧ Below w.heap.size w w' := by
  subst h; exact refEmp_any ⟨lo, hi, op⟩ w hl
theorem refOf_at (p : ByteArray) (s : Sp) (w : World) (hp : p.size ≤ 1000000) (h : ofS p = s) : Calls Tryd.prog 15 #[.string p] w fun e w' => e = .returned (.agg #[.string s.lo, .string s.hi, .bool s.op]) ∧ Below w.heap.size w w' := by
  subst h; exact refOf_any p w hp
theorem meet_at (a b s : Sp) (w : World) (h : meetS a b = s) : Calls Tryd.prog 16 #[.agg #[.string a.lo, .string a.hi, .bool a.op], .agg #[.string b.lo, .string b.hi, .bool b.op]] w fun e w' => e = .returned (.agg #[.string s.lo, .string s.hi, .bool s.op]) ∧ Below w.heap.size w w' := by
  subst h; exact meet_any a b w
theorem refMeet_at (a b s : Sp) (w : World) (ha : a.lo.size ≤ 1000000) (hb : b.hi.size ≤ 1000000) (h : meetS a b = s) : Calls Tryd.prog 17 #[.agg #[.string a.lo, .string a.hi, .bool a.op], .agg #[.string b.lo, .string b.hi, .bool b.op]] w fun e w' => e = .returned (.agg #[.string s.lo, .string s.hi, .bool s.op]) ∧ Below w.heap.size w w' := by
  subst h; exact refMeet_any a b w ha hb
theorem refWith_at (a b : Sp) (V : Bool) (w : World) (ha : a.lo.size ≤ 1000000) (hb : b.lo.size ≤ 1000000) (hh : b.hi.size ≤ 1000000) (h : withS a b = V) : Calls Tryd.prog 19 #[.agg #[.string a.lo, .string a.hi, .bool a.op], .agg #[.string b.lo, .string b.hi, .bool b.op]] w fun e w' => e = .returned (.bool V) ∧ Below w.heap.size w w' := by
  subst h; exact refWith_any a b w ha hb hh
theorem begins_at (s p : ByteArray) (V : Bool) (w : World) (h : begS s p = V) : Calls Tryd.prog 21 #[.string s, .string p] w fun e w' => e = .returned (.bool V) ∧ w = w' := by
  subst h; exact begins_any s p w
end Go.Proofs.YtblebkgobhlonaaDoor
