/-
  Slices of texts and of ints in memory, appends of one, a row of two slices.
-/
import Derived.Test.YtjlllkdimfkjaaaDoorBranchMath
import Derived.Test.YtjlllkdimfkjaaaDoorOver
import Derived.Test.YtjlllkdimfkjaaaDoorMem
import Derived.Laws.Cover1
namespace Go.Proofs.YtjlllkdimfkjaaaDoor
open Go Go.RowKit

abbrev sv (ks : List ByteArray) : List Value := ks.map Value.string
abbrev iv (is : List Int) : List Value := is.map (Value.int .i64)
theorem sv_get (ks : List ByteArray) (i : Nat) (h : i < ks.length) : (sv ks)[i]? = some (.string (sa ks i)) := by
  simp [sa, List.getD, h]
theorem iv_get (is : List Int) (i : Nat) (h : i < is.length) : (iv is)[i]? = some (.int .i64 (ia is i)) := by
  simp [ia, List.getD, h]
/-- A slice that reads as these texts; as these ints. -/
def TxS (w : World) (a : Option Addr) (ks : List ByteArray) : Prop := 0 < ks.length → ∃ g o, a = some ⟨g, o, none⟩ ∧ ∀ i, i < ks.length → w.cell? ⟨g, o + i, none⟩ = some (.string (sa ks i))
def PgS (w : World) (a : Option Addr) (is : List Int) : Prop := 0 < is.length → ∃ g o, a = some ⟨g, o, none⟩ ∧ ∀ i, i < is.length → w.cell? ⟨g, o + i, none⟩ = some (.int .i64 (ia is i))
theorem TxS.below {w w' : World} {a : Option Addr} {ks : List ByteArray} {B : Nat} (h : TxS w a ks) (hb : Below B w w') (hB : w.heap.size ≤ B) : TxS w' a ks := fun h0 => by
  obtain ⟨g, o, rfl, hc⟩ := h h0
  exact ⟨g, o, rfl, fun i hi => by rw [hb.cell (p := ⟨g, o + i, none⟩) (Nat.lt_of_lt_of_le (block_lt_of_cell (hc i hi)) hB)]; exact hc i hi⟩
theorem PgS.below {w w' : World} {a : Option Addr} {is : List Int} {B : Nat} (h : PgS w a is) (hb : Below B w w') (hB : w.heap.size ≤ B) : PgS w' a is := fun h0 => by
  obtain ⟨g, o, rfl, hc⟩ := h h0
  exact ⟨g, o, rfl, fun i hi => by rw [hb.cell (p := ⟨g, o + i, none⟩) (Nat.lt_of_lt_of_le (block_lt_of_cell (hc i hi)) hB)]; exact hc i hi⟩
theorem TxS.ext {w w' : World} {a : Option Addr} {ks : List ByteArray} (h : TxS w a ks) (hb : Ext w.drew w') : TxS w' a ks := h.below (B := w.heap.size) ((Below.refl _ w).drew.trans hb) (Nat.le_refl _)
theorem PgS.ext {w w' : World} {a : Option Addr} {is : List Int} (h : PgS w a is) (hb : Ext w.drew w') : PgS w' a is := h.below (B := w.heap.size) ((Below.refl _ w).drew.trans hb) (Nat.le_refl _)
theorem TxS.nil (w : World) (a : Option Addr) : TxS w a [] := fun h => by cases h
theorem PgS.nil (w : World) (a : Option Addr) : PgS w a [] := fun h => by cases h
/-- A slice value that reads as these texts, these ints, with its reach. -/
def TxV (w : World) (v : Value) (ks : List ByteArray) : Prop := ∃ a c, v = .slice a ks.length c ∧ TxS w a ks ∧ (a = none → c = 0) ∧ ks.length ≤ c ∧ c ≤ maxLen
def PgV (w : World) (v : Value) (is : List Int) : Prop := ∃ a c, v = .slice a is.length c ∧ PgS w a is ∧ (a = none → c = 0) ∧ is.length ≤ c ∧ c ≤ maxLen
theorem TxV.below {w w' : World} {v : Value} {ks : List ByteArray} {B : Nat} (h : TxV w v ks) (hb : Below B w w') (hB : w.heap.size ≤ B) : TxV w' v ks := by
  obtain ⟨a, c, rfl, hs, h1⟩ := h
  exact ⟨a, c, rfl, hs.below hb hB, h1⟩
theorem PgV.below {w w' : World} {v : Value} {is : List Int} {B : Nat} (h : PgV w v is) (hb : Below B w w') (hB : w.heap.size ≤ B) : PgV w' v is := by
  obtain ⟨a, c, rfl, hs, h1⟩ := h
  exact ⟨a, c, rfl, hs.below hb hB, h1⟩
theorem TxV.none (w : World) : TxV w (.slice none 0 0) [] := ⟨Option.none, 0, rfl, TxS.nil _ _, fun _ => rfl, Nat.le_refl _, by unfold maxLen; omega⟩
theorem PgV.none (w : World) : PgV w (.slice none 0 0) [] := ⟨Option.none, 0, rfl, PgS.nil _ _, fun _ => rfl, Nat.le_refl _, by unfold maxLen; omega⟩
theorem own_texts {w : World} {B E : Nat} {v : Value} {ks : List ByteArray} (h : w.ownsRow B E 1 v ks.length (sv ks)) : TxV w v ks := by
  have h' := h
  obtain ⟨_, h2⟩ := h
  rcases h2 with ⟨rfl, h0⟩ | ⟨g, cap, cur, rfl, hb, hg, hnc, hcm, _⟩
  · have : ks = [] := List.eq_nil_of_length_eq_zero h0
    subst this
    exact TxV.none w
  · refine ⟨_, cap, rfl, fun _ => ⟨g, 0, rfl, fun i hi => ?_⟩, (fun h => by cases h), hnc, hcm⟩
    have := h'.cellAt i (by omega)
    rw [Nat.zero_add]
    rw [sv_get ks i hi] at this
    exact this
theorem own_pages {w : World} {B E : Nat} {v : Value} {is : List Int} (h : w.ownsRow B E 1 v is.length (iv is)) : PgV w v is := by
  have h' := h
  obtain ⟨_, h2⟩ := h
  rcases h2 with ⟨rfl, h0⟩ | ⟨g, cap, cur, rfl, hb, hg, hnc, hcm, _⟩
  · have : is = [] := List.eq_nil_of_length_eq_zero h0
    subst this
    exact PgV.none w
  · refine ⟨_, cap, rfl, fun _ => ⟨g, 0, rfl, fun i hi => ?_⟩, (fun h => by cases h), hnc, hcm⟩
    have := h'.cellAt i (by omega)
    rw [Nat.zero_add]
    rw [iv_get is i hi] at this
    exact this
theorem infoStr : (Tryd.prog.info? 9).map (fun i => (i.zero, i.size, i.bytes)) = some (some (.string ⟨#[]⟩), 1, 16) := by kernel_rfl
theorem infoInt : (Tryd.prog.info? 3).map (fun i => (i.zero, i.size, i.bytes)) = some (some (.int .i64 0), 1, 8) := by kernel_rfl
section
variable {P : Program} {w : World} {ops : Array Oper} {rest : List Oper} {o : Oper} {a : Act} {Q : Exit → Act → World → Prop}
/-- append of one new text. -/
theorem wpList_append_text (hgd : o.guard = none) (s x : Operand) (t : TypeId)
    (ho : o.op = .call { callee := .builtin .append, args := #[s, x], argTypes := #[t, t] })
    (base : Nat) (e : TypeId) (ht : P.underlying t = some (.slice e)) (h2 : (P.info? e).map (fun i => (i.zero, i.size, i.bytes)) = some (some (.string ⟨#[]⟩), 1, 16))
    (v : Value) (ks : List ByteArray) (hs : a.eval s = v) (hown : Hid (w.ownsRow base e 1 v ks.length (sv ks)))
    (g c : Nat) (y : ByteArray) (hx : a.eval x = .slice (some ⟨g, 0, none⟩) 1 c) (hy : w.cell? ⟨g, 0, none⟩ = some (.string y))
    (hlen : (ks.length + 1) * 16 ≤ 140737488355328) (hbase : base ≤ w.heap.size)
    (h : ∀ v' w', Hid (w'.ownsRow base e 1 v' (ks ++ [y]).length (sv (ks ++ [y]))) → Hid (w.grownBy w' v.ownBlock) → wpList P ops Q rest (a.put o.dst v') w') :
    wpList P ops Q (o :: rest) a w := by
  obtain ⟨i0, hi, hz0, hz1, hz2⟩ := info_parts h2
  refine wpList_append_near hgd s x t ho base e i0 (.string ⟨#[]⟩) 1 16 ht hi hz0 hz1 hz2 rfl (by decide) v ks.length (sv ks) hs hown.out ⟨g, 0, none⟩ 1 c (sv [y]) hx rfl ?_ ?_ (by unfold maxLen; omega) hlen hbase ?_
  · intro j u hj
    rcases j with _ | j
    · rw [addr_add, Nat.zero_add, hy, ← hj]; rfl
    · cases hj
  · intro u hu
    simp only [sv, List.map_cons, List.map_nil, List.mem_singleton] at hu
    subst hu; rfl
  · intro v' w' hown' hg _
    refine h v' w' ?_ hg
    show w'.ownsRow _ _ _ _ _ _
    have e1 : sv (ks ++ [y]) = sv ks ++ sv [y] := List.map_append
    rw [e1, List.length_append]; exact hown'
/-- append of one new int. -/
theorem wpList_append_page (hgd : o.guard = none) (s x : Operand) (t : TypeId)
    (ho : o.op = .call { callee := .builtin .append, args := #[s, x], argTypes := #[t, t] })
    (base : Nat) (e : TypeId) (ht : P.underlying t = some (.slice e)) (h2 : (P.info? e).map (fun i => (i.zero, i.size, i.bytes)) = some (some (.int .i64 0), 1, 8))
    (v : Value) (is : List Int) (hs : a.eval s = v) (hown : Hid (w.ownsRow base e 1 v is.length (iv is)))
    (g c : Nat) (y : Int) (hx : a.eval x = .slice (some ⟨g, 0, none⟩) 1 c) (hy : w.cell? ⟨g, 0, none⟩ = some (.int .i64 y))
    (hlen : (is.length + 1) * 8 ≤ 140737488355328) (hbase : base ≤ w.heap.size)
    (h : ∀ v' w', Hid (w'.ownsRow base e 1 v' (is ++ [y]).length (iv (is ++ [y]))) → Hid (w.grownBy w' v.ownBlock) → wpList P ops Q rest (a.put o.dst v') w') :
    wpList P ops Q (o :: rest) a w := by
  obtain ⟨i0, hi, hz0, hz1, hz2⟩ := info_parts h2
  refine wpList_append_near hgd s x t ho base e i0 (.int .i64 0) 1 8 ht hi hz0 hz1 hz2 rfl (by decide) v is.length (iv is) hs hown.out ⟨g, 0, none⟩ 1 c (iv [y]) hx rfl ?_ ?_ (by unfold maxLen; omega) hlen hbase ?_
  · intro j u hj
    rcases j with _ | j
    · rw [addr_add, Nat.zero_add, hy, ← hj]; rfl
    · cases hj
  · intro u hu
    simp only [iv, List.map_cons, List.map_nil, List.mem_singleton] at hu
    subst hu; rfl
  · intro v' w' hown' hg _
    refine h v' w' ?_ hg
    show w'.ownsRow _ _ _ _ _ _
    have e1 : iv (is ++ [y]) = iv is ++ iv [y] := List.map_append
    rw [e1, List.length_append]; exact hown'
end
/-- A block of two slices. -/
def PB (w : World) (b : Nat) (T : TypeId) (u v : Value) : Prop := w.heap[b]? = some (.cells #[u, v] T (0, 0))
theorem PB.c0 {w : World} {b : Nat} {T : TypeId} {u v : Value} (h : PB w b T u v) : w.cell? ⟨b, 0, none⟩ = some u := by
  have h' : w.heap[b]? = _ := h
  simp [World.cell?, h']
theorem PB.c1 {w : World} {b : Nat} {T : TypeId} {u v : Value} (h : PB w b T u v) : w.cell? ⟨b, 1, none⟩ = some v := by
  have h' : w.heap[b]? = _ := h
  simp [World.cell?, h']
theorem PB.fz {w : World} {b : Nat} {T : TypeId} {u v : Value} (h : PB w b T u v) (j : Nat) : w.frozen? ⟨b, j, none⟩ = false := by
  have h' : w.heap[b]? = _ := h
  simp [World.frozen?, h']
theorem PB.lt {w : World} {b : Nat} {T : TypeId} {u v : Value} (h : PB w b T u v) : b < w.heap.size := (Array.getElem?_eq_some_iff.1 h).1
theorem PB.new (w : World) (T : TypeId) (u v : Value) : PB (w.alloc (.cells #[u, v] T)) w.heap.size T u v := by
  show (w.heap.push _)[w.heap.size]? = _; rw [Array.getElem?_push_size]
theorem PB.below {w w' : World} {b B : Nat} {T : TypeId} {u v : Value} (h : PB w b T u v) (hb : Below B w w') (hB : b < B) : PB w' b T u v := (hb.block b hB).trans h
theorem PB.ext {w w' : World} {b : Nat} {T : TypeId} {u v : Value} (h : PB w b T u v) (hb : Below w.heap.size w w') : PB w' b T u v := h.below hb h.lt
theorem PB.extD {w w' : World} {b : Nat} {T : TypeId} {u v : Value} (h : PB w b T u v) (hb : Ext w.drew w') : PB w' b T u v := h.below (B := w.heap.size) ((Below.refl _ w).drew.trans hb) h.lt
theorem PB.stay {w : World} {b : Nat} {T : TypeId} {u v : Value} (h : PB w b T u v) (o : Obj) : PB (w.alloc o) b T u v := h.ext ((Below.refl _ _).alloc (Nat.le_refl _) o)
theorem PB.turn {w w' : World} {b : Nat} {T : TypeId} {u v : Value} {F : Nat → Prop} (h : PB w b T u v) (t : Turn F w w') (hF : ¬ F b) : PB w' b T u v := t.hg h hF
theorem PB.set0 {w : World} {b : Nat} {T : TypeId} {u v : Value} (h : PB w b T u v) (x : Value) : PB (w.setCell ⟨b, 0, none⟩ x) b T x v := heap_setCell_same w b 0 _ _ _ h
theorem PB.set1 {w : World} {b : Nat} {T : TypeId} {u v : Value} (h : PB w b T u v) (x : Value) : PB (w.setCell ⟨b, 1, none⟩ x) b T u x := heap_setCell_same w b 1 _ _ _ h
theorem PB.noByte {w : World} {b : Nat} {T : TypeId} {a1 a2 : Option Addr} {n1 c1 n2 c2 : Nat} (h : PB w b T (.slice a1 n1 c1) (.slice a2 n2 c2)) : NoByte w b := fun j y hj => by
  have h' : w.heap[b]? = _ := h
  simp only [World.cell?, h'] at hj
  rcases j with _ | _ | j <;> simp at hj
end Go.Proofs.YtjlllkdimfkjaaaDoor
