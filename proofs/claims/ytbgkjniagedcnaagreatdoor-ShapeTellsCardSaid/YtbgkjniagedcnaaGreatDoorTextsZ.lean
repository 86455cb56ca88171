/-
  Slices of texts in memory, and the append of one.
  Slices of ints in memory, and the append of one.
-/
import Derived.Test.YtbgkjniagedcnaaGreatDoorProg
import Derived.Test.YtbgkjniagedcnaaGreatDoorMemZ
import Derived.Test.YtbgkjniagedcnaaGreatDoorGr
import Derived.Laws.Cover1
namespace Go.Proofs.YtbgkjniagedcnaaGreatDoor
open Go Go.RowKit

/-- The text at a place. -/
def sa (ks : List ByteArray) (i : Nat) : ByteArray := ks.getD i ByteArray.empty
theorem sa_take (ks : List ByteArray) (k : Nat) (h : k < ks.length) : ks.take (k + 1) = ks.take k ++ [sa ks k] := by
  rw [List.take_succ_eq_append_getElem h]; simp [sa, List.getD, h]
theorem sa_app_lt (ks : List ByteArray) (y : ByteArray) (i : Nat) (h : i < ks.length) : sa (ks ++ [y]) i = sa ks i := by
  unfold sa; simp [List.getD, List.getElem?_append_left h]
theorem sa_app_at (ks : List ByteArray) (y : ByteArray) : sa (ks ++ [y]) ks.length = y := by
  unfold sa; simp [List.getD]
abbrev sv (ks : List ByteArray) : List Value := ks.map Value.string
theorem sv_get (ks : List ByteArray) (i : Nat) (h : i < ks.length) : (sv ks)[i]? = some (.string (sa ks i)) := by
  simp [sa, List.getD, h]
/-- A slice that reads as these texts; as these ints. -/
def TxS (w : World) (a : Option Addr) (ks : List ByteArray) : Prop := 0 < ks.length → ∃ g o, a = some ⟨g, o, none⟩ ∧ ∀ i, i < ks.length → w.cell? ⟨g, o + i, none⟩ = some (.string (sa ks i))
theorem TxS.below {w w' : World} {a : Option Addr} {ks : List ByteArray} {B : Nat} (h : TxS w a ks) (hb : Below B w w') (hB : w.heap.size ≤ B) : TxS w' a ks := fun h0 => by
  obtain ⟨g, o, rfl, hc⟩ := h h0
  exact ⟨g, o, rfl, fun i hi => by rw [hb.cell (p := ⟨g, o + i, none⟩) (Nat.lt_of_lt_of_le (block_lt_of_cell (hc i hi)) hB)]; exact hc i hi⟩
theorem TxS.ext {w w' : World} {a : Option Addr} {ks : List ByteArray} (h : TxS w a ks) (hb : Ext w.drew w') : TxS w' a ks := h.below (B := w.heap.size) ((Below.refl _ w).drew.trans hb) (Nat.le_refl _)
theorem TxS.nil (w : World) (a : Option Addr) : TxS w a [] := fun h => by cases h
/-- A slice value that reads as these texts, these ints, with its reach. -/
def TxV (w : World) (v : Value) (ks : List ByteArray) : Prop := ∃ a c, v = .slice a ks.length c ∧ TxS w a ks ∧ (a = none → c = 0) ∧ ks.length ≤ c ∧ c ≤ maxLen
theorem TxV.below {w w' : World} {v : Value} {ks : List ByteArray} {B : Nat} (h : TxV w v ks) (hb : Below B w w') (hB : w.heap.size ≤ B) : TxV w' v ks := by
  obtain ⟨a, c, rfl, hs, h1⟩ := h
  exact ⟨a, c, rfl, hs.below hb hB, h1⟩
theorem TxV.none (w : World) : TxV w (.slice none 0 0) [] := ⟨Option.none, 0, rfl, TxS.nil _ _, fun _ => rfl, Nat.le_refl _, by unfold maxLen; omega⟩
theorem own_texts {w : World} {B E : Nat} {v : Value} {ks : List ByteArray} (h : w.ownsRow B E 1 v ks.length (sv ks)) : TxV w v ks := by
  have h' := h
  obtain ⟨_, h2⟩ := h
  rcases h2 with ⟨rfl, h0⟩ | ⟨g, cap, cur, rfl, hb, hg, hnc, hcm, _⟩
  · have : ks = [] := List.eq_nil_of_length_eq_zero h0
    subst this
    exact TxV.none w
  · refine ⟨_, cap, rfl, fun _ => ⟨g, 0, rfl, fun i hi => ?_⟩, (fun h => by cases h), hnc, hcm⟩
    have := h'.cellAt i (by omega)
    rw [Nat.zero_add]
    rw [sv_get ks i hi] at this
    exact this
theorem infoStr : (Tryz.prog.info? 9).map (fun i => (i.zero, i.size, i.bytes)) = some (some (.string ⟨#[]⟩), 1, 16) := by kernel_rfl
section
variable {P : Program} {w : World} {ops : Array Oper} {rest : List Oper} {o : Oper} {a : Act} {Q : Exit → Act → World → Prop}
/-- append of one new text. -/
theorem wpList_append_text (hgd : o.guard = none) (s x : Operand) (t : TypeId)
    (ho : o.op = .call { callee := .builtin .append, args := #[s, x], argTypes := #[t, t] })
    (base : Nat) (e : TypeId) (ht : P.underlying t = some (.slice e)) (h2 : (P.info? e).map (fun i => (i.zero, i.size, i.bytes)) = some (some (.string ⟨#[]⟩), 1, 16))
    (v : Value) (ks : List ByteArray) (hs : a.eval s = v) (hown : Hid (w.ownsRow base e 1 v ks.length (sv ks)))
    (g c : Nat) (y : ByteArray) (hx : a.eval x = .slice (some ⟨g, 0, none⟩) 1 c) (hy : w.cell? ⟨g, 0, none⟩ = some (.string y))
    (hlen : (ks.length + 1) * 16 ≤ 140737488355328) (hbase : base ≤ w.heap.size)
    (h : ∀ v' w', Hid (w'.ownsRow base e 1 v' (ks ++ [y]).length (sv (ks ++ [y]))) → Hid (w.grownBy w' v.ownBlock) → wpList P ops Q rest (a.put o.dst v') w') :
    wpList P ops Q (o :: rest) a w := by
  obtain ⟨i0, hi, hz0, hz1, hz2⟩ := info_parts h2
  refine wpList_append_near hgd s x t ho base e i0 (.string ⟨#[]⟩) 1 16 ht hi hz0 hz1 hz2 rfl (by decide) v ks.length (sv ks) hs hown.out ⟨g, 0, none⟩ 1 c (sv [y]) hx rfl ?_ ?_ (by unfold maxLen; omega) hlen hbase ?_
  · intro j u hj
    rcases j with _ | j
    · rw [addr_add, Nat.zero_add, hy, ← hj]; rfl
    · cases hj
  · intro u hu
    simp only [sv, List.map_cons, List.map_nil, List.mem_singleton] at hu
    subst hu; rfl
  · intro v' w' hown' hg _
    refine h v' w' ?_ hg
    show w'.ownsRow _ _ _ _ _ _
    have e1 : sv (ks ++ [y]) = sv ks ++ sv [y] := List.map_append
    rw [e1, List.length_append]; exact hown'
end
end Go.Proofs.YtbgkjniagedcnaaGreatDoor
namespace Go.Proofs.YtbgkjniagedcnaaGreatDoor
open Go Go.RowKit

/-- The int at a place. -/
def ia (is : List Int) (i : Nat) : Int := is.getD i 0
theorem ia_take (is : List Int) (k : Nat) (h : k < is.length) : is.take (k + 1) = is.take k ++ [ia is k] := by
  rw [List.take_succ_eq_append_getElem h]; simp [ia, List.getD, h]
theorem ia_app_lt (ks : List Int) (y : Int) (i : Nat) (h : i < ks.length) : ia (ks ++ [y]) i = ia ks i := by
  unfold ia; simp [List.getD, List.getElem?_append_left h]
theorem ia_app_at (ks : List Int) (y : Int) : ia (ks ++ [y]) ks.length = y := by
  unfold ia; simp [List.getD]
abbrev iv (is : List Int) : List Value := is.map (Value.int .i64)
theorem iv_get (is : List Int) (i : Nat) (h : i < is.length) : (iv is)[i]? = some (.int .i64 (ia is i)) := by
  simp [ia, List.getD, h]
def PgS (w : World) (a : Option Addr) (is : List Int) : Prop := 0 < is.length → ∃ g o, a = some ⟨g, o, none⟩ ∧ ∀ i, i < is.length → w.cell? ⟨g, o + i, none⟩ = some (.int .i64 (ia is i))
theorem PgS.below {w w' : World} {a : Option Addr} {is : List Int} {B : Nat} (h : PgS w a is) (hb : Below B w w') (hB : w.heap.size ≤ B) : PgS w' a is := fun h0 => by
  obtain ⟨g, o, rfl, hc⟩ := h h0
  exact ⟨g, o, rfl, fun i hi => by rw [hb.cell (p := ⟨g, o + i, none⟩) (Nat.lt_of_lt_of_le (block_lt_of_cell (hc i hi)) hB)]; exact hc i hi⟩
theorem PgS.ext {w w' : World} {a : Option Addr} {is : List Int} (h : PgS w a is) (hb : Ext w.drew w') : PgS w' a is := h.below (B := w.heap.size) ((Below.refl _ w).drew.trans hb) (Nat.le_refl _)
theorem PgS.nil (w : World) (a : Option Addr) : PgS w a [] := fun h => by cases h
def PgV (w : World) (v : Value) (is : List Int) : Prop := ∃ a c, v = .slice a is.length c ∧ PgS w a is ∧ (a = none → c = 0) ∧ is.length ≤ c ∧ c ≤ maxLen
theorem PgV.below {w w' : World} {v : Value} {is : List Int} {B : Nat} (h : PgV w v is) (hb : Below B w w') (hB : w.heap.size ≤ B) : PgV w' v is := by
  obtain ⟨a, c, rfl, hs, h1⟩ := h
  exact ⟨a, c, rfl, hs.below hb hB, h1⟩
theorem PgV.none (w : World) : PgV w (.slice none 0 0) [] := ⟨Option.none, 0, rfl, PgS.nil _ _, fun _ => rfl, Nat.le_refl _, by unfold maxLen; omega⟩
theorem own_pages {w : World} {B E : Nat} {v : Value} {is : List Int} (h : w.ownsRow B E 1 v is.length (iv is)) : PgV w v is := by
  have h' := h
  obtain ⟨_, h2⟩ := h
  rcases h2 with ⟨rfl, h0⟩ | ⟨g, cap, cur, rfl, hb, hg, hnc, hcm, _⟩
  · have : is = [] := List.eq_nil_of_length_eq_zero h0
    subst this
    exact PgV.none w
  · refine ⟨_, cap, rfl, fun _ => ⟨g, 0, rfl, fun i hi => ?_⟩, (fun h => by cases h), hnc, hcm⟩
    have := h'.cellAt i (by omega)
    rw [Nat.zero_add]
    rw [iv_get is i hi] at this
    exact this
theorem infoInt : (Tryz.prog.info? 3).map (fun i => (i.zero, i.size, i.bytes)) = some (some (.int .i64 0), 1, 8) := by kernel_rfl
section
variable {P : Program} {w : World} {ops : Array Oper} {rest : List Oper} {o : Oper} {a : Act} {Q : Exit → Act → World → Prop}
/-- append of one new int. -/
theorem wpList_append_page (hgd : o.guard = none) (s x : Operand) (t : TypeId)
    (ho : o.op = .call { callee := .builtin .append, args := #[s, x], argTypes := #[t, t] })
    (base : Nat) (e : TypeId) (ht : P.underlying t = some (.slice e)) (h2 : (P.info? e).map (fun i => (i.zero, i.size, i.bytes)) = some (some (.int .i64 0), 1, 8))
    (v : Value) (is : List Int) (hs : a.eval s = v) (hown : Hid (w.ownsRow base e 1 v is.length (iv is)))
    (g c : Nat) (y : Int) (hx : a.eval x = .slice (some ⟨g, 0, none⟩) 1 c) (hy : w.cell? ⟨g, 0, none⟩ = some (.int .i64 y))
    (hlen : (is.length + 1) * 8 ≤ 140737488355328) (hbase : base ≤ w.heap.size)
    (h : ∀ v' w', Hid (w'.ownsRow base e 1 v' (is ++ [y]).length (iv (is ++ [y]))) → Hid (w.grownBy w' v.ownBlock) → wpList P ops Q rest (a.put o.dst v') w') :
    wpList P ops Q (o :: rest) a w := by
  obtain ⟨i0, hi, hz0, hz1, hz2⟩ := info_parts h2
  refine wpList_append_near hgd s x t ho base e i0 (.int .i64 0) 1 8 ht hi hz0 hz1 hz2 rfl (by decide) v is.length (iv is) hs hown.out ⟨g, 0, none⟩ 1 c (iv [y]) hx rfl ?_ ?_ (by unfold maxLen; omega) hlen hbase ?_
  · intro j u hj
    rcases j with _ | j
    · rw [addr_add, Nat.zero_add, hy, ← hj]; rfl
    · cases hj
  · intro u hu
    simp only [iv, List.map_cons, List.map_nil, List.mem_singleton] at hu
    subst hu; rfl
  · intro v' w' hown' hg _
    refine h v' w' ?_ hg
    show w'.ownsRow _ _ _ _ _ _
    have e1 : iv (is ++ [y]) = iv is ++ iv [y] := List.map_append
    rw [e1, List.length_append]; exact hown'
end
end Go.Proofs.YtbgkjniagedcnaaGreatDoor
