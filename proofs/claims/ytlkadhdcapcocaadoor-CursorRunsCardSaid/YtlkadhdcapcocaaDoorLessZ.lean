/-
  The document's Less.
  Spans in memory; keys.Has, and the document's.
-/
import Derived.Test.YtlkadhdcapcocaaDoorProg
import Derived.Test.YtlkadhdcapcocaaDoorKeysMathZ
import Derived.Laws.Cover1
import Derived.Test.YtlkadhdcapcocaaDoorGr
import Derived.WalkKit
import Derived.Lib.Hide
namespace Go.Proofs.YtlkadhdcapcocaaDoor
open Go Go.RowKit

abbrev STR : TypeId := 9
/-- A byte of a text. -/
def byteAt (s : ByteArray) (i : Nat) : Nat := ((bl s).getD i 0).toNat
theorem bl_len (s : ByteArray) : (bl s).length = s.size := by
  show s.data.toList.length = s.data.size; simp
theorem getD_len {l : List UInt8} {i : Nat} (h : i < l.length) : l.getD i 0 = l[i] := by simp [List.getD, h]
theorem index_str (s : ByteArray) (i : Nat) (hi : i < s.size) (w : World) : (Instr.index STR (.string s) (.int .i64 (i : Int))).run Tryd.prog w = .ok (.int .u8 (byteAt s i)) w := by
  rw [run_index_string w STR s .i64 i Tryd.underlying9, dif_pos ⟨by omega, by omega⟩]
  congr 3
  unfold byteAt
  congr 1
  have hi' : i < s.data.toList.length := by simpa using hi
  rw [show (bl s).getD i 0 = s.data.toList[i] from getD_len hi']
  simp [ByteArray.getElem_eq_getElem_data]
theorem byteAt_lt (s : ByteArray) (i : Nat) : byteAt s i < 256 := UInt8.toNat_lt _
/-- Where two texts part. -/
theorem lt_part : ∀ (a b : List UInt8) (i : Nat), i < a.length → i < b.length → a.take i = b.take i → a.getD i 0 ≠ b.getD i 0 → (a < b ↔ a.getD i 0 < b.getD i 0)
  | [], _, _, h, _, _, _ => by simp at h
  | _ :: _, [], _, _, h, _, _ => by simp at h
  | x :: a, y :: b, 0, _, _, _, hne => by
    simp at hne ⊢
    rw [lt_cons]
    constructor
    · rintro (h | h)
      · exact h
      · exact absurd h.1 hne
    · exact .inl
  | x :: a, y :: b, i + 1, h1, h2, ht, hne => by
    simp at ht
    rw [lt_cons]
    simp only [List.getD_cons_succ] at hne ⊢
    rw [← lt_part a b i (by simpa using h1) (by simpa using h2) ht.2 hne]
    constructor
    · rintro (h | h)
      · exact absurd h (by rw [ht.1]; grind)
      · exact h.2
    · exact fun h => .inr ⟨ht.1, h⟩
theorem lt_len : ∀ (a b : List UInt8) (i : Nat), a.take i = b.take i → (a.length ≤ i ∨ b.length ≤ i) → i ≤ a.length → i ≤ b.length → (a < b ↔ a.length < b.length)
  | [], b, 0, _, _, _, _ => by cases b <;> simp
  | x :: a, [], 0, _, _, _, _ => by simp
  | x :: a, y :: b, 0, _, h, _, _ => by simp at h
  | [], _, i + 1, _, _, h, _ => by simp at h
  | _ :: _, [], i + 1, _, _, _, h => by simp at h
  | x :: a, y :: b, i + 1, ht, h, h1, h2 => by
    simp at ht
    rw [lt_cons, ht.1]
    have := lt_len a b i ht.2 (by simpa using h) (by simpa using h1) (by simpa using h2)
    simp only [List.length_cons]
    rw [show (a.length + 1 < b.length + 1 ↔ a.length < b.length) by omega, ← this]
    constructor
    · rintro (h | h)
      · grind
      · exact h.2
    · exact fun h => .inr ⟨by first | trivial | rfl, h⟩
theorem take_both {a b : List UInt8} {i : Nat} (h1 : i < a.length) (h2 : i < b.length) (ht : a.take i = b.take i) (he : a.getD i 0 = b.getD i 0) : a.take (i + 1) = b.take (i + 1) := by
  rw [List.take_succ_eq_append_getElem h1, List.take_succ_eq_append_getElem h2, ht, ← getD_len h1, ← getD_len h2, he]
theorem blt_part (a b : ByteArray) (i : Nat) (h1 : i < a.size) (h2 : i < b.size) (ht : (bl a).take i = (bl b).take i) (hne : byteAt a i ≠ byteAt b i) : blt a b = decide (byteAt a i < byteAt b i) := by
  rw [blt_eq, Bool.eq_iff_iff, decide_eq_true_iff, decide_eq_true_iff]
  exact lt_part _ _ i (by rw [bl_len]; exact h1) (by rw [bl_len]; exact h2) ht (fun e => hne (congrArg UInt8.toNat e))
theorem blt_len (a b : ByteArray) (i : Nat) (h : a.size ≤ i ∨ b.size ≤ i) (h1 : i ≤ a.size) (h2 : i ≤ b.size) (ht : (bl a).take i = (bl b).take i) : blt a b = decide (a.size < b.size) := by
  rw [blt_eq, Bool.eq_iff_iff, decide_eq_true_iff, decide_eq_true_iff, ← bl_len, ← bl_len]
  exact lt_len _ _ i ht (by rw [bl_len, bl_len]; exact h) (by rw [bl_len]; exact h1) (by rw [bl_len]; exact h2)
set_option maxRecDepth 100000 in
theorem less_any (a b : ByteArray) (w : World) (ha : a.size ≤ 1000000) : Calls Tryd.prog 51 #[.string a, .string b] w fun e w' => e = .returned (.bool (blt a b)) ∧ Below w.heap.size w w' := by
  go_enter Tryd.func51, Tryd.ntmps51
  go_wp2_with fail
  go_loopw [5] (fun i wr => ∃ k : Nat, k ≤ a.size ∧ k ≤ b.size ∧ i = .int .i64 k ∧ Hid ((bl a).take k = (bl b).take k) ∧ Hid (Below w.heap.size w wr)) (fun i _ => a.size - (intOf i).toNat)
  case atStart => exact ⟨0, by omega, by omega, by first | trivial | rfl, by show _ = _; simp, Below.refl _ _⟩
  case round =>
    obtain ⟨k, hka, hkb, rfl, ht, hbel⟩ := hrel
    by_cases hc : k < a.size ∧ k < b.size
    · obtain ⟨hc1, hc2⟩ := hc
      have i1 := index_str a k hc1
      have i2 := index_str b k hc2
      have x1 := byteAt_lt a k
      have x2 := byteAt_lt b k
      by_cases he : byteAt a k = byteAt b k
      · have Hn : Hid ((bl a).take (k + 1) = (bl b).take (k + 1)) := by
          show _ = _
          refine take_both (by rw [bl_len]; exact hc1) (by rw [bl_len]; exact hc2) ht.out ?_
          exact UInt8.toNat_inj.1 he
        rw [he] at i1
        generalize byteAt b k = X at *
        go_wp2_with fail
        refine wp_region_gr [(0, true), (1, true), (2, true), (3, true), (4, true), (5, true), (6, true)] (by kernel_rfl) (by kernel_rfl) (by kernel_rfl) (by kernel_rfl) (fun _ _ _ _ _ h => h) ?_
        iterate 7 (refine wpGr_read (o := ⟨_, _, _, _, _, _⟩) (v := ?_) rfl (by rfl) ?_ ?_; rotate_left; (intro w' hw'; go_simp; with_reducible rfl); simp only [Act.put, List.setIfInBounds_toArray, List.set_cons_zero, List.set_cons_succ])
        refine wpGr_done ?_
        go_wp2_with fail
        go_roundw
        case rel => exact ⟨k + 1, by omega, by omega, rfl, Hn, hbel.out.drew⟩
        case measure => simp [intOf]; omega
      · have Hp := Lib.hid (blt_part a b k hc1 hc2 ht.out he)
        obtain ⟨X, hX⟩ : ∃ X, byteAt a k = X := ⟨_, rfl⟩
        obtain ⟨Y, hY⟩ : ∃ Y, byteAt b k = Y := ⟨_, rfl⟩
        rw [hX] at i1 x1 he Hp
        rw [hY] at i2 x2 he Hp
        clear hX hY
        have hne : ¬ ((X : Int) = (Y : Int)) := by omega
        go_wp2_with fail
        refine wp_region_gr [(0, true), (1, true), (2, true), (3, true), (4, true), (5, true), (6, true)] (by kernel_rfl) (by kernel_rfl) (by kernel_rfl) (by kernel_rfl) (fun _ _ _ _ _ h => h) ?_
        iterate 7 (refine wpGr_read (o := ⟨_, _, _, _, _, _⟩) (v := ?_) rfl (by rfl) ?_ ?_; rotate_left; (intro w' hw'; go_simp; with_reducible rfl); simp only [Act.put, List.setIfInBounds_toArray, List.set_cons_zero, List.set_cons_succ])
        refine wpGr_done ?_
        go_wp2_with fail
        refine wp_region_gr [(0, true), (1, true), (2, true), (3, true), (4, true), (5, true), (6, true), (7, true)] (by kernel_rfl) (by kernel_rfl) (by kernel_rfl) (by kernel_rfl) (fun _ _ _ _ _ h => h) ?_
        iterate 8 (refine wpGr_read (o := ⟨_, _, _, _, _, _⟩) (v := ?_) rfl (by rfl) ?_ ?_; rotate_left; (intro w' hw'; go_simp; with_reducible rfl); simp only [Act.put, List.setIfInBounds_toArray, List.set_cons_zero, List.set_cons_succ])
        refine wpGr_done ?_
        go_wp2_with fail
        go_ret
        exact ⟨by rw [Hp.out]; simp, hbel.out.drew.drew⟩
    · have Hl := Lib.hid (blt_len a b k (by omega) hka hkb ht.out)
      by_cases hc1 : k < a.size
      · have hc2 : ¬ k < b.size := fun h => hc ⟨hc1, h⟩
        go_wp2
        go_ret
        exact ⟨by rw [Hl.out]; simp, hbel.out⟩
      · go_wp2
        go_ret
        exact ⟨by rw [Hl.out]; simp, hbel.out⟩
end Go.Proofs.YtlkadhdcapcocaaDoor
namespace Go.Proofs.YtlkadhdcapcocaaDoor
open Go Go.RowKit

abbrev SPT : TypeId := 43
abbrev RSP : TypeId := 25
/-- A block that holds a span. -/
def SpIn (w : World) (b : Nat) (T : TypeId) (s : Sp) : Prop := w.heap[b]? = some (.cells #[.string s.lo, .string s.hi, .bool s.op] T (0, 0))
theorem SpIn.c0 {w : World} {b : Nat} {T : TypeId} {s : Sp} (h : SpIn w b T s) : w.cell? ⟨b, 0, none⟩ = some (.string s.lo) := by
  have h' : w.heap[b]? = _ := h
  simp [World.cell?, h']
theorem SpIn.c1 {w : World} {b : Nat} {T : TypeId} {s : Sp} (h : SpIn w b T s) : w.cell? ⟨b, 1, none⟩ = some (.string s.hi) := by
  have h' : w.heap[b]? = _ := h
  simp [World.cell?, h']
theorem SpIn.c2 {w : World} {b : Nat} {T : TypeId} {s : Sp} (h : SpIn w b T s) : w.cell? ⟨b, 2, none⟩ = some (.bool s.op) := by
  have h' : w.heap[b]? = _ := h
  simp [World.cell?, h']
theorem SpIn.lt {w : World} {b : Nat} {T : TypeId} {s : Sp} (h : SpIn w b T s) : b < w.heap.size := (Array.getElem?_eq_some_iff.1 h).1
theorem SpIn.new (w : World) (T : TypeId) (s : Sp) : SpIn (w.alloc (.cells #[.string s.lo, .string s.hi, .bool s.op] T)) w.heap.size T s := by
  show (w.heap.push _)[w.heap.size]? = _; rw [Array.getElem?_push_size]
theorem SpIn.below {w w' : World} {b B : Nat} {T : TypeId} {s : Sp} (h : SpIn w b T s) (hb : Below B w w') (hB : b < B) : SpIn w' b T s := (hb.block b hB).trans h
theorem SpIn.ext {w w' : World} {b : Nat} {T : TypeId} {s : Sp} (h : SpIn w b T s) (hb : Below w.heap.size w w') : SpIn w' b T s := h.below hb h.lt
theorem SpIn.old {w w' : World} {b : Nat} {T : TypeId} {s : Sp} (h : SpIn w b T s) (o : Obj) (hb : Below (w.alloc o).heap.size (w.alloc o) w') : SpIn w' b T s :=
  (h.below ((Below.refl _ _).alloc (Nat.le_refl _) o) h.lt).ext hb
theorem below_new (w : World) (o : Obj) {w' : World} (hb : Below (w.alloc o).heap.size (w.alloc o) w') : Below w.heap.size w w' :=
  ((Below.refl w.heap.size w).alloc (Nat.le_refl _) o).trans (hb.mono (by simp))
theorem has_any (s : Sp) (k : ByteArray) (w : World) : Calls Tryd.prog 20 #[s.v, .string k] w fun e w' => e = .returned (.bool (hasS s k)) ∧ Below w.heap.size w w' := by
  obtain ⟨lo, hi, op⟩ := s
  have hb : Hid (Below w.heap.size w (w.alloc (.cells #[.string lo, .string hi, .bool op] SPT))) := (Below.refl _ _).alloc (Nat.le_refl _) _
  unfold Sp.v hasS
  dsimp only
  have h1 : Op.bytesLess k.toList lo.toList = blt k lo := rfl
  have h2 : Op.bytesLess k.toList hi.toList = blt k hi := rfl
  generalize blt k lo = D1 at *
  generalize blt k hi = D2 at *
  cases D1 <;> cases op <;>
  · go_enter Tryd.func20, Tryd.ntmps20
    go_wp2
    go_ret
    exact ⟨rfl, hb.out⟩
theorem refHas_any (s : Sp) (k : ByteArray) (w : World) (hk : k.size ≤ 1000000) : Calls Tryd.prog 39 #[s.v, .string k] w fun e w' => e = .returned (.bool (hasS s k)) ∧ Below w.heap.size w w' := by
  obtain ⟨lo, hi, op⟩ := s
  have hb : Hid (Below w.heap.size w (w.alloc (.cells #[.string lo, .string hi, .bool op] RSP))) := (Below.refl _ _).alloc (Nat.le_refl _) _
  unfold Sp.v hasS
  dsimp only
  have l1 := fun w => less_any k lo w hk
  have l2 := fun w => less_any k hi w hk
  generalize blt k lo = D1 at *
  generalize blt k hi = D2 at *
  have L1 := Lib.hid l1
  have L2 := Lib.hid l2
  clear l1 l2
  have hn := Lib.hid (SpIn.new w RSP ⟨lo, hi, op⟩)
  cases D1 with
  | true =>
    go_enter Tryd.func39, Tryd.ntmps39
    go_wp2_with fail
    refine (L1.out _).mono ?_
    rintro e w1 ⟨rfl, hb1⟩
    have Hb1 := Lib.hid (below_new _ _ hb1)
    clear hb1
    go_wp2_with fail
    go_ret
    exact ⟨rfl, Hb1.out⟩
  | false =>
    cases op with
    | true =>
      go_enter Tryd.func39, Tryd.ntmps39
      go_wp2_with fail
      refine (L1.out _).mono ?_
      rintro e w1 ⟨rfl, hb1⟩
      have s1 := hn.out.ext hb1
      have c0 := s1.c0
      have c1 := s1.c1
      have c2 := s1.c2
      dsimp only at c0 c1 c2
      have Hb1 := Lib.hid (below_new _ _ hb1)
      clear hb1 s1
      go_wp2_with fail
      go_ret
      exact ⟨rfl, Hb1.out⟩
    | false =>
      go_enter Tryd.func39, Tryd.ntmps39
      go_wp2_with fail
      refine (L1.out _).mono ?_
      rintro e w1 ⟨rfl, hb1⟩
      have s1 := hn.out.ext hb1
      have c0 := s1.c0
      have c1 := s1.c1
      have c2 := s1.c2
      dsimp only at c0 c1 c2
      have Hb1 := Lib.hid (below_new _ _ hb1)
      clear hb1 s1
      go_wp2_with fail
      refine (L2.out _).mono ?_
      rintro e w2 ⟨rfl, hb2⟩
      have Hb2 := Lib.hid (Hb1.out.trans (hb2.mono Hb1.out.size))
      clear hb2 Hb1 c0 c1 c2
      go_wp2_with fail
      go_ret
      exact ⟨rfl, Hb2.out⟩
theorem two_below (w : World) (o1 o2 : Obj) : Below w.heap.size w ((w.alloc o1).alloc o2) := ((Below.refl w.heap.size w).alloc (Nat.le_refl _) o1).alloc (by simp) o2
theorem two_spans (w : World) (T : TypeId) (a b : Sp) : SpIn ((w.alloc (.cells #[.string a.lo, .string a.hi, .bool a.op] T)).alloc (.cells #[.string b.lo, .string b.hi, .bool b.op] T)) w.heap.size T a ∧ SpIn ((w.alloc (.cells #[.string a.lo, .string a.hi, .bool a.op] T)).alloc (.cells #[.string b.lo, .string b.hi, .bool b.op] T)) (w.heap.size + 1) T b := by
  have h1 := SpIn.new w T a
  have h2 := SpIn.new (w.alloc (.cells #[.string a.lo, .string a.hi, .bool a.op] T)) T b
  rw [show (w.alloc (.cells #[.string a.lo, .string a.hi, .bool a.op] T)).heap.size = w.heap.size + 1 by simp] at h2
  exact ⟨h1.below ((Below.refl _ _).alloc (Nat.le_refl _) _) h1.lt, h2⟩
theorem SpIn.fz {w : World} {b : Nat} {T : TypeId} {s : Sp} (h : SpIn w b T s) (j : Nat) : w.frozen? ⟨b, j, none⟩ = false := by
  have h' : w.heap[b]? = _ := h
  simp [World.frozen?, h']
theorem SpIn.set0 {w : World} {b : Nat} {T : TypeId} {s : Sp} (h : SpIn w b T s) (x : ByteArray) : SpIn (w.setCell ⟨b, 0, none⟩ (.string x)) b T ⟨x, s.hi, s.op⟩ := heap_setCell_same w b 0 _ _ _ h
theorem SpIn.set1 {w : World} {b : Nat} {T : TypeId} {s : Sp} (h : SpIn w b T s) (x : ByteArray) : SpIn (w.setCell ⟨b, 1, none⟩ (.string x)) b T ⟨s.lo, x, s.op⟩ := heap_setCell_same w b 1 _ _ _ h
theorem SpIn.setOther {w : World} {b g j : Nat} {T : TypeId} {s : Sp} {v : Value} (h : SpIn w b T s) (hne : g ≠ b) : SpIn (w.setCell ⟨g, j, none⟩ v) b T s := by
  unfold SpIn
  rw [heap_setCell_other _ _ _ _ (fun e => hne e.symm)]; exact h
def Z0 : Sp := ⟨⟨#[]⟩, ⟨#[]⟩, false⟩
end Go.Proofs.YtlkadhdcapcocaaDoor
