/-
  keys.Has, Empty, endsWithin, Within, and the document's Has, Empty, Within.
-/
import Derived.Test.YtblebkgobhlonaaDoorKeys1
namespace Go.Proofs.YtblebkgobhlonaaDoor
open Go Go.RowKit

abbrev SPT : TypeId := 26
abbrev RSP : TypeId := 23
/-- A block that holds a span. -/
def SpIn (w : World) (b : Nat) (T : TypeId) (s : Sp) : Prop := w.heap[b]? = some (.cells #[.string s.lo, .string s.hi, .bool s.op] T (0, 0))
theorem SpIn.c0 {w : World} {b : Nat} {T : TypeId} {s : Sp} (h : SpIn w b T s) : w.cell? ⟨b, 0, none⟩ = some (.string s.lo) := by
  have h' : w.heap[b]? = _ := h
  simp [World.cell?, h']
theorem SpIn.c1 {w : World} {b : Nat} {T : TypeId} {s : Sp} (h : SpIn w b T s) : w.cell? ⟨b, 1, none⟩ = some (.string s.hi) := by
  have h' : w.heap[b]? = _ := h
  simp [World.cell?, h']
theorem SpIn.c2 {w : World} {b : Nat} {T : TypeId} {s : Sp} (h : SpIn w b T s) : w.cell? ⟨b, 2, none⟩ = some (.bool s.op) := by
  have h' : w.heap[b]? = _ := h
  simp [World.cell?, h']
theorem SpIn.lt {w : World} {b : Nat} {T : TypeId} {s : Sp} (h : SpIn w b T s) : b < w.heap.size := (Array.getElem?_eq_some_iff.1 h).1
theorem SpIn.new (w : World) (T : TypeId) (s : Sp) : SpIn (w.alloc (.cells #[.string s.lo, .string s.hi, .bool s.op] T)) w.heap.size T s := by
  show (w.heap.push _)[w.heap.size]? = _; rw [Array.getElem?_push_size]
theorem SpIn.below {w w' : World} {b B : Nat} {T : TypeId} {s : Sp} (h : SpIn w b T s) (hb : Below B w w') (hB : b < B) : SpIn w' b T s := (hb.block b hB).trans h
theorem SpIn.ext {w w' : World} {b : Nat} {T : TypeId} {s : Sp} (h : SpIn w b T s) (hb : Below w.heap.size w w') : SpIn w' b T s := h.below hb h.lt
theorem SpIn.old {w w' : World} {b : Nat} {T : TypeId} {s : Sp} (h : SpIn w b T s) (o : Obj) (hb : Below (w.alloc o).heap.size (w.alloc o) w') : SpIn w' b T s :=
  (h.below ((Below.refl _ _).alloc (Nat.le_refl _) o) h.lt).ext hb
theorem below_new (w : World) (o : Obj) {w' : World} (hb : Below (w.alloc o).heap.size (w.alloc o) w') : Below w.heap.size w w' :=
  ((Below.refl w.heap.size w).alloc (Nat.le_refl _) o).trans (hb.mono (by simp))
theorem has_any (s : Sp) (k : ByteArray) (w : World) : Calls Tryd.prog 10 #[s.v, .string k] w fun e w' => e = .returned (.bool (hasS s k)) ∧ Below w.heap.size w w' := by
  obtain ⟨lo, hi, op⟩ := s
  have hb : Hid (Below w.heap.size w (w.alloc (.cells #[.string lo, .string hi, .bool op] SPT))) := (Below.refl _ _).alloc (Nat.le_refl _) _
  unfold Sp.v hasS
  dsimp only
  have h1 : Op.bytesLess k.toList lo.toList = blt k lo := rfl
  have h2 : Op.bytesLess k.toList hi.toList = blt k hi := rfl
  generalize blt k lo = D1 at *
  generalize blt k hi = D2 at *
  cases D1 <;> cases op <;>
  · go_enter Tryd.func10, Tryd.ntmps10
    go_wp2
    go_ret
    exact ⟨rfl, hb.out⟩
theorem refHas_any (s : Sp) (k : ByteArray) (w : World) (hk : k.size ≤ 1000000) : Calls Tryd.prog 11 #[s.v, .string k] w fun e w' => e = .returned (.bool (hasS s k)) ∧ Below w.heap.size w w' := by
  obtain ⟨lo, hi, op⟩ := s
  have hb : Hid (Below w.heap.size w (w.alloc (.cells #[.string lo, .string hi, .bool op] RSP))) := (Below.refl _ _).alloc (Nat.le_refl _) _
  unfold Sp.v hasS
  dsimp only
  have l1 := fun w => less_any k lo w hk
  have l2 := fun w => less_any k hi w hk
  generalize blt k lo = D1 at *
  generalize blt k hi = D2 at *
  have L1 := Lib.hid l1
  have L2 := Lib.hid l2
  clear l1 l2
  have hn := Lib.hid (SpIn.new w RSP ⟨lo, hi, op⟩)
  cases D1 with
  | true =>
    go_enter Tryd.func11, Tryd.ntmps11
    go_wp2_with fail
    refine (L1.out _).mono ?_
    rintro e w1 ⟨rfl, hb1⟩
    have Hb1 := Lib.hid (below_new _ _ hb1)
    clear hb1
    go_wp2_with fail
    go_ret
    exact ⟨rfl, Hb1.out⟩
  | false =>
    cases op with
    | true =>
      go_enter Tryd.func11, Tryd.ntmps11
      go_wp2_with fail
      refine (L1.out _).mono ?_
      rintro e w1 ⟨rfl, hb1⟩
      have s1 := hn.out.ext hb1
      have c0 := s1.c0
      have c1 := s1.c1
      have c2 := s1.c2
      dsimp only at c0 c1 c2
      have Hb1 := Lib.hid (below_new _ _ hb1)
      clear hb1 s1
      go_wp2_with fail
      go_ret
      exact ⟨rfl, Hb1.out⟩
    | false =>
      go_enter Tryd.func11, Tryd.ntmps11
      go_wp2_with fail
      refine (L1.out _).mono ?_
      rintro e w1 ⟨rfl, hb1⟩
      have s1 := hn.out.ext hb1
      have c0 := s1.c0
      have c1 := s1.c1
      have c2 := s1.c2
      dsimp only at c0 c1 c2
      have Hb1 := Lib.hid (below_new _ _ hb1)
      clear hb1 s1
      go_wp2_with fail
      refine (L2.out _).mono ?_
      rintro e w2 ⟨rfl, hb2⟩
      have Hb2 := Lib.hid (Hb1.out.trans (hb2.mono Hb1.out.size))
      clear hb2 Hb1 c0 c1 c2
      go_wp2_with fail
      go_ret
      exact ⟨rfl, Hb2.out⟩
theorem emp_any (s : Sp) (w : World) : Calls Tryd.prog 12 #[s.v] w fun e w' => e = .returned (.bool (empS s)) ∧ Below w.heap.size w w' := by
  obtain ⟨lo, hi, op⟩ := s
  have hb : Hid (Below w.heap.size w (w.alloc (.cells #[.string lo, .string hi, .bool op] SPT))) := (Below.refl _ _).alloc (Nat.le_refl _) _
  unfold Sp.v empS
  dsimp only
  have h1 := ble_eq hi lo
  generalize blt lo hi = D1 at *
  cases D1 <;> cases op <;>
  · go_enter Tryd.func12, Tryd.ntmps12
    go_wp2
    go_ret
    exact ⟨rfl, hb.out⟩
theorem refEmp_any (s : Sp) (w : World) (hl : s.lo.size ≤ 1000000) : Calls Tryd.prog 13 #[s.v] w fun e w' => e = .returned (.bool (empS s)) ∧ Below w.heap.size w w' := by
  obtain ⟨lo, hi, op⟩ := s
  have hb : Hid (Below w.heap.size w (w.alloc (.cells #[.string lo, .string hi, .bool op] RSP))) := (Below.refl _ _).alloc (Nat.le_refl _) _
  have l1 := fun w => less_any lo hi w hl
  unfold Sp.v empS
  dsimp only
  generalize blt lo hi = D1 at *
  have L1 := Lib.hid l1
  clear l1
  cases op with
  | true =>
    go_enter Tryd.func13, Tryd.ntmps13
    go_wp2
    go_ret
    exact ⟨rfl, hb.out⟩
  | false =>
    go_enter Tryd.func13, Tryd.ntmps13
    go_wp2_with fail
    refine (L1.out _).mono ?_
    rintro e w1 ⟨rfl, hb1⟩
    have Hb1 := Lib.hid (below_new _ _ hb1)
    clear hb1
    cases D1 <;>
    · go_wp2_with fail
      go_ret
      exact ⟨rfl, Hb1.out⟩
theorem two_below (w : World) (o1 o2 : Obj) : Below w.heap.size w ((w.alloc o1).alloc o2) := ((Below.refl w.heap.size w).alloc (Nat.le_refl _) o1).alloc (by simp) o2
theorem two_spans (w : World) (T : TypeId) (a b : Sp) : SpIn ((w.alloc (.cells #[.string a.lo, .string a.hi, .bool a.op] T)).alloc (.cells #[.string b.lo, .string b.hi, .bool b.op] T)) w.heap.size T a ∧ SpIn ((w.alloc (.cells #[.string a.lo, .string a.hi, .bool a.op] T)).alloc (.cells #[.string b.lo, .string b.hi, .bool b.op] T)) (w.heap.size + 1) T b := by
  have h1 := SpIn.new w T a
  have h2 := SpIn.new (w.alloc (.cells #[.string a.lo, .string a.hi, .bool a.op] T)) T b
  rw [show (w.alloc (.cells #[.string a.lo, .string a.hi, .bool a.op] T)).heap.size = w.heap.size + 1 by simp] at h2
  exact ⟨h1.below ((Below.refl _ _).alloc (Nat.le_refl _) _) h1.lt, h2⟩
theorem end_any (a b : Sp) (w : World) : Calls Tryd.prog 24 #[a.v, b.v] w fun e w' => e = .returned (.bool (endS a b)) ∧ Below w.heap.size w w' := by
  obtain ⟨lo, hi, op⟩ := a
  obtain ⟨lo2, hi2, op2⟩ := b
  have hb := Lib.hid (two_below w (.cells #[.string lo, .string hi, .bool op] SPT) (.cells #[.string lo2, .string hi2, .bool op2] SPT))
  unfold Sp.v endS
  dsimp only
  have h1 := ble_eq hi hi2
  generalize blt hi2 hi = D1 at *
  cases D1 <;> cases op <;> cases op2 <;>
  · go_enter Tryd.func24, Tryd.ntmps24
    go_wp2
    go_ret
    exact ⟨rfl, hb.out⟩
end Go.Proofs.YtblebkgobhlonaaDoor
