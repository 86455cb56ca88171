/-
  Spans in memory; keys.Has.
  keys.Next.
-/
import Derived.Test.YtjkpjbgapemieaaDoorProg
import Derived.Test.YtjkpjbgapemieaaDoorKeysMathZ
import Derived.Laws.Cover1
import Derived.Test.YtjkpjbgapemieaaDoorGr
import Derived.WalkKit
import Derived.Lib.Hide
namespace Go.Proofs.YtjkpjbgapemieaaDoor
open Go Go.RowKit

abbrev STR : TypeId := 9
abbrev SPT : TypeId := 67
/-- A block that holds a span. -/
def SpIn (w : World) (b : Nat) (T : TypeId) (s : Sp) : Prop := w.heap[b]? = some (.cells #[.string s.lo, .string s.hi, .bool s.op] T (0, 0))
theorem SpIn.c0 {w : World} {b : Nat} {T : TypeId} {s : Sp} (h : SpIn w b T s) : w.cell? ⟨b, 0, none⟩ = some (.string s.lo) := by
  have h' : w.heap[b]? = _ := h
  simp [World.cell?, h']
theorem SpIn.c1 {w : World} {b : Nat} {T : TypeId} {s : Sp} (h : SpIn w b T s) : w.cell? ⟨b, 1, none⟩ = some (.string s.hi) := by
  have h' : w.heap[b]? = _ := h
  simp [World.cell?, h']
theorem SpIn.c2 {w : World} {b : Nat} {T : TypeId} {s : Sp} (h : SpIn w b T s) : w.cell? ⟨b, 2, none⟩ = some (.bool s.op) := by
  have h' : w.heap[b]? = _ := h
  simp [World.cell?, h']
theorem SpIn.lt {w : World} {b : Nat} {T : TypeId} {s : Sp} (h : SpIn w b T s) : b < w.heap.size := (Array.getElem?_eq_some_iff.1 h).1
theorem SpIn.new (w : World) (T : TypeId) (s : Sp) : SpIn (w.alloc (.cells #[.string s.lo, .string s.hi, .bool s.op] T)) w.heap.size T s := by
  show (w.heap.push _)[w.heap.size]? = _; rw [Array.getElem?_push_size]
theorem SpIn.below {w w' : World} {b B : Nat} {T : TypeId} {s : Sp} (h : SpIn w b T s) (hb : Below B w w') (hB : b < B) : SpIn w' b T s := (hb.block b hB).trans h
theorem SpIn.ext {w w' : World} {b : Nat} {T : TypeId} {s : Sp} (h : SpIn w b T s) (hb : Below w.heap.size w w') : SpIn w' b T s := h.below hb h.lt
theorem SpIn.old {w w' : World} {b : Nat} {T : TypeId} {s : Sp} (h : SpIn w b T s) (o : Obj) (hb : Below (w.alloc o).heap.size (w.alloc o) w') : SpIn w' b T s :=
  (h.below ((Below.refl _ _).alloc (Nat.le_refl _) o) h.lt).ext hb
theorem below_new (w : World) (o : Obj) {w' : World} (hb : Below (w.alloc o).heap.size (w.alloc o) w') : Below w.heap.size w w' :=
  ((Below.refl w.heap.size w).alloc (Nat.le_refl _) o).trans (hb.mono (by simp))
theorem has_any (s : Sp) (k : ByteArray) (w : World) : Calls Tryd.prog 54 #[s.v, .string k] w fun e w' => e = .returned (.bool (hasS s k)) ∧ Below w.heap.size w w' := by
  obtain ⟨lo, hi, op⟩ := s
  have hb : Hid (Below w.heap.size w (w.alloc (.cells #[.string lo, .string hi, .bool op] SPT))) := (Below.refl _ _).alloc (Nat.le_refl _) _
  unfold Sp.v hasS
  dsimp only
  have h1 : Op.bytesLess k.toList lo.toList = blt k lo := rfl
  have h2 : Op.bytesLess k.toList hi.toList = blt k hi := rfl
  generalize blt k lo = D1 at *
  generalize blt k hi = D2 at *
  cases D1 <;> cases op <;>
  · go_enter Tryd.func54, Tryd.ntmps54
    go_wp2
    go_ret
    exact ⟨rfl, hb.out⟩
theorem two_below (w : World) (o1 o2 : Obj) : Below w.heap.size w ((w.alloc o1).alloc o2) := ((Below.refl w.heap.size w).alloc (Nat.le_refl _) o1).alloc (by simp) o2
theorem two_spans (w : World) (T : TypeId) (a b : Sp) : SpIn ((w.alloc (.cells #[.string a.lo, .string a.hi, .bool a.op] T)).alloc (.cells #[.string b.lo, .string b.hi, .bool b.op] T)) w.heap.size T a ∧ SpIn ((w.alloc (.cells #[.string a.lo, .string a.hi, .bool a.op] T)).alloc (.cells #[.string b.lo, .string b.hi, .bool b.op] T)) (w.heap.size + 1) T b := by
  have h1 := SpIn.new w T a
  have h2 := SpIn.new (w.alloc (.cells #[.string a.lo, .string a.hi, .bool a.op] T)) T b
  rw [show (w.alloc (.cells #[.string a.lo, .string a.hi, .bool a.op] T)).heap.size = w.heap.size + 1 by simp] at h2
  exact ⟨h1.below ((Below.refl _ _).alloc (Nat.le_refl _) _) h1.lt, h2⟩
theorem SpIn.fz {w : World} {b : Nat} {T : TypeId} {s : Sp} (h : SpIn w b T s) (j : Nat) : w.frozen? ⟨b, j, none⟩ = false := by
  have h' : w.heap[b]? = _ := h
  simp [World.frozen?, h']
theorem SpIn.set0 {w : World} {b : Nat} {T : TypeId} {s : Sp} (h : SpIn w b T s) (x : ByteArray) : SpIn (w.setCell ⟨b, 0, none⟩ (.string x)) b T ⟨x, s.hi, s.op⟩ := heap_setCell_same w b 0 _ _ _ h
theorem SpIn.set1 {w : World} {b : Nat} {T : TypeId} {s : Sp} (h : SpIn w b T s) (x : ByteArray) : SpIn (w.setCell ⟨b, 1, none⟩ (.string x)) b T ⟨s.lo, x, s.op⟩ := heap_setCell_same w b 1 _ _ _ h
theorem SpIn.setOther {w : World} {b g j : Nat} {T : TypeId} {s : Sp} {v : Value} (h : SpIn w b T s) (hne : g ≠ b) : SpIn (w.setCell ⟨g, j, none⟩ v) b T s := by
  unfold SpIn
  rw [heap_setCell_other _ _ _ _ (fun e => hne e.symm)]; exact h
def Z0 : Sp := ⟨⟨#[]⟩, ⟨#[]⟩, false⟩

end Go.Proofs.YtjkpjbgapemieaaDoor
namespace Go.Proofs.YtjkpjbgapemieaaDoor
open Go Go.RowKit

theorem next_any (k : ByteArray) (w : World) (h : k.size ≤ 1000000) : Calls Tryd.prog 55 #[.string k] w fun e w' => e = .returned (.string (nextS k)) ∧ w = w' := by
  have h1 : ¬ (9223372036854775807 < k.size + 1) := by omega
  obtain ⟨N, hN⟩ : ∃ N, N = nextS k := ⟨_, rfl⟩
  have h2 : k ++ ⟨#[0]⟩ = N := hN.symm
  rw [← hN]
  clear hN
  go_enter Tryd.func55, Tryd.ntmps55
  go_wp2
  go_ret
  exact ⟨rfl, rfl⟩
end Go.Proofs.YtjkpjbgapemieaaDoor
