/-
  Spans in memory; keys.Has.
  keys.Next.
  A text's byte at a place.
-/
import Derived.Test.YtbgkjniagedcnaaGreatDoorProg
import Derived.Test.YtbgkjniagedcnaaGreatDoorKeysMathZ
import Derived.Test.YtbgkjniagedcnaaGreatDoorGr
import Derived.Laws.Cover1
import Derived.WalkKit
import Derived.Lib.Hide
namespace Go.Proofs.YtbgkjniagedcnaaGreatDoor
open Go Go.RowKit

abbrev STR : TypeId := 9
abbrev SPT : TypeId := 56
/-- A block that holds a span. -/
def SpIn (w : World) (b : Nat) (T : TypeId) (s : Sp) : Prop := w.heap[b]? = some (.cells #[.string s.lo, .string s.hi, .bool s.op] T (0, 0))
theorem SpIn.c0 {w : World} {b : Nat} {T : TypeId} {s : Sp} (h : SpIn w b T s) : w.cell? ⟨b, 0, none⟩ = some (.string s.lo) := by
  have h' : w.heap[b]? = _ := h
  simp [World.cell?, h']
theorem SpIn.c1 {w : World} {b : Nat} {T : TypeId} {s : Sp} (h : SpIn w b T s) : w.cell? ⟨b, 1, none⟩ = some (.string s.hi) := by
  have h' : w.heap[b]? = _ := h
  simp [World.cell?, h']
theorem SpIn.c2 {w : World} {b : Nat} {T : TypeId} {s : Sp} (h : SpIn w b T s) : w.cell? ⟨b, 2, none⟩ = some (.bool s.op) := by
  have h' : w.heap[b]? = _ := h
  simp [World.cell?, h']
theorem SpIn.lt {w : World} {b : Nat} {T : TypeId} {s : Sp} (h : SpIn w b T s) : b < w.heap.size := (Array.getElem?_eq_some_iff.1 h).1
theorem SpIn.new (w : World) (T : TypeId) (s : Sp) : SpIn (w.alloc (.cells #[.string s.lo, .string s.hi, .bool s.op] T)) w.heap.size T s := by
  show (w.heap.push _)[w.heap.size]? = _; rw [Array.getElem?_push_size]
theorem SpIn.below {w w' : World} {b B : Nat} {T : TypeId} {s : Sp} (h : SpIn w b T s) (hb : Below B w w') (hB : b < B) : SpIn w' b T s := (hb.block b hB).trans h
theorem SpIn.ext {w w' : World} {b : Nat} {T : TypeId} {s : Sp} (h : SpIn w b T s) (hb : Below w.heap.size w w') : SpIn w' b T s := h.below hb h.lt
theorem SpIn.old {w w' : World} {b : Nat} {T : TypeId} {s : Sp} (h : SpIn w b T s) (o : Obj) (hb : Below (w.alloc o).heap.size (w.alloc o) w') : SpIn w' b T s :=
  (h.below ((Below.refl _ _).alloc (Nat.le_refl _) o) h.lt).ext hb
theorem below_new (w : World) (o : Obj) {w' : World} (hb : Below (w.alloc o).heap.size (w.alloc o) w') : Below w.heap.size w w' :=
  ((Below.refl w.heap.size w).alloc (Nat.le_refl _) o).trans (hb.mono (by simp))
theorem has_any (s : Sp) (k : ByteArray) (w : World) : Calls Tryz.prog 60 #[s.v, .string k] w fun e w' => e = .returned (.bool (hasS s k)) ∧ Below w.heap.size w w' := by
  obtain ⟨lo, hi, op⟩ := s
  have hb : Hid (Below w.heap.size w (w.alloc (.cells #[.string lo, .string hi, .bool op] SPT))) := (Below.refl _ _).alloc (Nat.le_refl _) _
  unfold Sp.v hasS
  dsimp only
  have h1 : Op.bytesLess k.toList lo.toList = blt k lo := rfl
  have h2 : Op.bytesLess k.toList hi.toList = blt k hi := rfl
  generalize blt k lo = D1 at *
  generalize blt k hi = D2 at *
  cases D1 <;> cases op <;>
  · go_enter Tryz.func60, Tryz.ntmps60
    go_wp2
    go_ret
    exact ⟨rfl, hb.out⟩
theorem two_below (w : World) (o1 o2 : Obj) : Below w.heap.size w ((w.alloc o1).alloc o2) := ((Below.refl w.heap.size w).alloc (Nat.le_refl _) o1).alloc (by simp) o2
theorem two_spans (w : World) (T : TypeId) (a b : Sp) : SpIn ((w.alloc (.cells #[.string a.lo, .string a.hi, .bool a.op] T)).alloc (.cells #[.string b.lo, .string b.hi, .bool b.op] T)) w.heap.size T a ∧ SpIn ((w.alloc (.cells #[.string a.lo, .string a.hi, .bool a.op] T)).alloc (.cells #[.string b.lo, .string b.hi, .bool b.op] T)) (w.heap.size + 1) T b := by
  have h1 := SpIn.new w T a
  have h2 := SpIn.new (w.alloc (.cells #[.string a.lo, .string a.hi, .bool a.op] T)) T b
  rw [show (w.alloc (.cells #[.string a.lo, .string a.hi, .bool a.op] T)).heap.size = w.heap.size + 1 by simp] at h2
  exact ⟨h1.below ((Below.refl _ _).alloc (Nat.le_refl _) _) h1.lt, h2⟩
theorem SpIn.fz {w : World} {b : Nat} {T : TypeId} {s : Sp} (h : SpIn w b T s) (j : Nat) : w.frozen? ⟨b, j, none⟩ = false := by
  have h' : w.heap[b]? = _ := h
  simp [World.frozen?, h']
theorem SpIn.set0 {w : World} {b : Nat} {T : TypeId} {s : Sp} (h : SpIn w b T s) (x : ByteArray) : SpIn (w.setCell ⟨b, 0, none⟩ (.string x)) b T ⟨x, s.hi, s.op⟩ := heap_setCell_same w b 0 _ _ _ h
theorem SpIn.set1 {w : World} {b : Nat} {T : TypeId} {s : Sp} (h : SpIn w b T s) (x : ByteArray) : SpIn (w.setCell ⟨b, 1, none⟩ (.string x)) b T ⟨s.lo, x, s.op⟩ := heap_setCell_same w b 1 _ _ _ h
theorem SpIn.setOther {w : World} {b g j : Nat} {T : TypeId} {s : Sp} {v : Value} (h : SpIn w b T s) (hne : g ≠ b) : SpIn (w.setCell ⟨g, j, none⟩ v) b T s := by
  unfold SpIn
  rw [heap_setCell_other _ _ _ _ (fun e => hne e.symm)]; exact h
def Z0 : Sp := ⟨⟨#[]⟩, ⟨#[]⟩, false⟩

end Go.Proofs.YtbgkjniagedcnaaGreatDoor
namespace Go.Proofs.YtbgkjniagedcnaaGreatDoor
open Go Go.RowKit

theorem next_any (k : ByteArray) (w : World) (h : k.size ≤ 1000000) : Calls Tryz.prog 82 #[.string k] w fun e w' => e = .returned (.string (nextS k)) ∧ w = w' := by
  have h1 : ¬ (9223372036854775807 < k.size + 1) := by omega
  obtain ⟨N, hN⟩ : ∃ N, N = nextS k := ⟨_, rfl⟩
  have h2 : k ++ ⟨#[0]⟩ = N := hN.symm
  rw [← hN]
  clear hN
  go_enter Tryz.func82, Tryz.ntmps82
  go_wp2
  go_ret
  exact ⟨rfl, rfl⟩
end Go.Proofs.YtbgkjniagedcnaaGreatDoor
namespace Go.Proofs.YtbgkjniagedcnaaGreatDoor
open Go Go.RowKit

/-- A byte of a text. -/
def byteAt (s : ByteArray) (i : Nat) : Nat := ((bl s).getD i 0).toNat
theorem bl_len (s : ByteArray) : (bl s).length = s.size := by
  show s.data.toList.length = s.data.size; simp
theorem getD_len {l : List UInt8} {i : Nat} (h : i < l.length) : l.getD i 0 = l[i] := by simp [List.getD, h]
theorem index_str (s : ByteArray) (i : Nat) (hi : i < s.size) (w : World) : (Instr.index STR (.string s) (.int .i64 (i : Int))).run Tryz.prog w = .ok (.int .u8 (byteAt s i)) w := by
  rw [run_index_string w STR s .i64 i Tryz.underlying9, dif_pos ⟨by omega, by omega⟩]
  congr 3
  unfold byteAt
  congr 1
  have hi' : i < s.data.toList.length := by simpa using hi
  rw [show (bl s).getD i 0 = s.data.toList[i] from getD_len hi']
  simp [ByteArray.getElem_eq_getElem_data]
theorem byteAt_lt (s : ByteArray) (i : Nat) : byteAt s i < 256 := UInt8.toNat_lt _
/-- Where two texts part. -/
theorem lt_part : ∀ (a b : List UInt8) (i : Nat), i < a.length → i < b.length → a.take i = b.take i → a.getD i 0 ≠ b.getD i 0 → (a < b ↔ a.getD i 0 < b.getD i 0)
  | [], _, _, h, _, _, _ => by simp at h
  | _ :: _, [], _, _, h, _, _ => by simp at h
  | x :: a, y :: b, 0, _, _, _, hne => by
    simp at hne ⊢
    rw [lt_cons]
    constructor
    · rintro (h | h)
      · exact h
      · exact absurd h.1 hne
    · exact .inl
  | x :: a, y :: b, i + 1, h1, h2, ht, hne => by
    simp at ht
    rw [lt_cons]
    simp only [List.getD_cons_succ] at hne ⊢
    rw [← lt_part a b i (by simpa using h1) (by simpa using h2) ht.2 hne]
    constructor
    · rintro (h | h)
      · exact absurd h (by rw [ht.1]; grind)
      · exact h.2
    · exact fun h => .inr ⟨ht.1, h⟩
theorem lt_len : ∀ (a b : List UInt8) (i : Nat), a.take i = b.take i → (a.length ≤ i ∨ b.length ≤ i) → i ≤ a.length → i ≤ b.length → (a < b ↔ a.length < b.length)
  | [], b, 0, _, _, _, _ => by cases b <;> simp
  | x :: a, [], 0, _, _, _, _ => by simp
  | x :: a, y :: b, 0, _, h, _, _ => by simp at h
  | [], _, i + 1, _, _, h, _ => by simp at h
  | _ :: _, [], i + 1, _, _, _, h => by simp at h
  | x :: a, y :: b, i + 1, ht, h, h1, h2 => by
    simp at ht
    rw [lt_cons, ht.1]
    have := lt_len a b i ht.2 (by simpa using h) (by simpa using h1) (by simpa using h2)
    simp only [List.length_cons]
    rw [show (a.length + 1 < b.length + 1 ↔ a.length < b.length) by omega, ← this]
    constructor
    · rintro (h | h)
      · grind
      · exact h.2
    · exact fun h => .inr ⟨by first | trivial | rfl, h⟩
theorem take_both {a b : List UInt8} {i : Nat} (h1 : i < a.length) (h2 : i < b.length) (ht : a.take i = b.take i) (he : a.getD i 0 = b.getD i 0) : a.take (i + 1) = b.take (i + 1) := by
  rw [List.take_succ_eq_append_getElem h1, List.take_succ_eq_append_getElem h2, ht, ← getD_len h1, ← getD_len h2, he]
theorem blt_part (a b : ByteArray) (i : Nat) (h1 : i < a.size) (h2 : i < b.size) (ht : (bl a).take i = (bl b).take i) (hne : byteAt a i ≠ byteAt b i) : blt a b = decide (byteAt a i < byteAt b i) := by
  rw [blt_eq, Bool.eq_iff_iff, decide_eq_true_iff, decide_eq_true_iff]
  exact lt_part _ _ i (by rw [bl_len]; exact h1) (by rw [bl_len]; exact h2) ht (fun e => hne (congrArg UInt8.toNat e))
theorem blt_len (a b : ByteArray) (i : Nat) (h : a.size ≤ i ∨ b.size ≤ i) (h1 : i ≤ a.size) (h2 : i ≤ b.size) (ht : (bl a).take i = (bl b).take i) : blt a b = decide (a.size < b.size) := by
  rw [blt_eq, Bool.eq_iff_iff, decide_eq_true_iff, decide_eq_true_iff, ← bl_len, ← bl_len]
  exact lt_len _ _ i ht (by rw [bl_len, bl_len]; exact h) (by rw [bl_len]; exact h1) (by rw [bl_len]; exact h2)
end Go.Proofs.YtbgkjniagedcnaaGreatDoor
