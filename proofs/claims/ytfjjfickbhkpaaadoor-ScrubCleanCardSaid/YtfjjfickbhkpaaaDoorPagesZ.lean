/-
  Slices of ints in memory, and the append of one.
-/
import Derived.Test.YtfjjfickbhkpaaaDoorProg
import Derived.Test.YtfjjfickbhkpaaaDoorMemZ
import Derived.Test.YtfjjfickbhkpaaaDoorGr
import Derived.Laws.Cover1
namespace Go.Proofs.YtfjjfickbhkpaaaDoor
open Go Go.RowKit

/-- The int at a place. -/
def ia (is : List Int) (i : Nat) : Int := is.getD i 0
theorem ia_take (is : List Int) (k : Nat) (h : k < is.length) : is.take (k + 1) = is.take k ++ [ia is k] := by
  rw [List.take_succ_eq_append_getElem h]; simp [ia, List.getD, h]
theorem ia_app_lt (ks : List Int) (y : Int) (i : Nat) (h : i < ks.length) : ia (ks ++ [y]) i = ia ks i := by
  unfold ia; simp [List.getD, List.getElem?_append_left h]
theorem ia_app_at (ks : List Int) (y : Int) : ia (ks ++ [y]) ks.length = y := by
  unfold ia; simp [List.getD]
abbrev iv (is : List Int) : List Value := is.map (Value.int .i64)
theorem iv_get (is : List Int) (i : Nat) (h : i < is.length) : (iv is)[i]? = some (.int .i64 (ia is i)) := by
  simp [ia, List.getD, h]
def PgS (w : World) (a : Option Addr) (is : List Int) : Prop := 0 < is.length → ∃ g o, a = some ⟨g, o, none⟩ ∧ ∀ i, i < is.length → w.cell? ⟨g, o + i, none⟩ = some (.int .i64 (ia is i))
theorem PgS.below {w w' : World} {a : Option Addr} {is : List Int} {B : Nat} (h : PgS w a is) (hb : Below B w w') (hB : w.heap.size ≤ B) : PgS w' a is := fun h0 => by
  obtain ⟨g, o, rfl, hc⟩ := h h0
  exact ⟨g, o, rfl, fun i hi => by rw [hb.cell (p := ⟨g, o + i, none⟩) (Nat.lt_of_lt_of_le (block_lt_of_cell (hc i hi)) hB)]; exact hc i hi⟩
theorem PgS.ext {w w' : World} {a : Option Addr} {is : List Int} (h : PgS w a is) (hb : Ext w.drew w') : PgS w' a is := h.below (B := w.heap.size) ((Below.refl _ w).drew.trans hb) (Nat.le_refl _)
theorem PgS.nil (w : World) (a : Option Addr) : PgS w a [] := fun h => by cases h
def PgV (w : World) (v : Value) (is : List Int) : Prop := ∃ a c, v = .slice a is.length c ∧ PgS w a is ∧ (a = none → c = 0) ∧ is.length ≤ c ∧ c ≤ maxLen
theorem PgV.below {w w' : World} {v : Value} {is : List Int} {B : Nat} (h : PgV w v is) (hb : Below B w w') (hB : w.heap.size ≤ B) : PgV w' v is := by
  obtain ⟨a, c, rfl, hs, h1⟩ := h
  exact ⟨a, c, rfl, hs.below hb hB, h1⟩
theorem PgV.none (w : World) : PgV w (.slice none 0 0) [] := ⟨Option.none, 0, rfl, PgS.nil _ _, fun _ => rfl, Nat.le_refl _, by unfold maxLen; omega⟩
theorem own_pages {w : World} {B E : Nat} {v : Value} {is : List Int} (h : w.ownsRow B E 1 v is.length (iv is)) : PgV w v is := by
  have h' := h
  obtain ⟨_, h2⟩ := h
  rcases h2 with ⟨rfl, h0⟩ | ⟨g, cap, cur, rfl, hb, hg, hnc, hcm, _⟩
  · have : is = [] := List.eq_nil_of_length_eq_zero h0
    subst this
    exact PgV.none w
  · refine ⟨_, cap, rfl, fun _ => ⟨g, 0, rfl, fun i hi => ?_⟩, (fun h => by cases h), hnc, hcm⟩
    have := h'.cellAt i (by omega)
    rw [Nat.zero_add]
    rw [iv_get is i hi] at this
    exact this
theorem infoInt : (Tryd.prog.info? 3).map (fun i => (i.zero, i.size, i.bytes)) = some (some (.int .i64 0), 1, 8) := by kernel_rfl
section
variable {P : Program} {w : World} {ops : Array Oper} {rest : List Oper} {o : Oper} {a : Act} {Q : Exit → Act → World → Prop}
/-- append of one new int. -/
theorem wpList_append_page (hgd : o.guard = none) (s x : Operand) (t : TypeId)
    (ho : o.op = .call { callee := .builtin .append, args := #[s, x], argTypes := #[t, t] })
    (base : Nat) (e : TypeId) (ht : P.underlying t = some (.slice e)) (h2 : (P.info? e).map (fun i => (i.zero, i.size, i.bytes)) = some (some (.int .i64 0), 1, 8))
    (v : Value) (is : List Int) (hs : a.eval s = v) (hown : Hid (w.ownsRow base e 1 v is.length (iv is)))
    (g c : Nat) (y : Int) (hx : a.eval x = .slice (some ⟨g, 0, none⟩) 1 c) (hy : w.cell? ⟨g, 0, none⟩ = some (.int .i64 y))
    (hlen : (is.length + 1) * 8 ≤ 140737488355328) (hbase : base ≤ w.heap.size)
    (h : ∀ v' w', Hid (w'.ownsRow base e 1 v' (is ++ [y]).length (iv (is ++ [y]))) → Hid (w.grownBy w' v.ownBlock) → wpList P ops Q rest (a.put o.dst v') w') :
    wpList P ops Q (o :: rest) a w := by
  obtain ⟨i0, hi, hz0, hz1, hz2⟩ := info_parts h2
  refine wpList_append_near hgd s x t ho base e i0 (.int .i64 0) 1 8 ht hi hz0 hz1 hz2 rfl (by decide) v is.length (iv is) hs hown.out ⟨g, 0, none⟩ 1 c (iv [y]) hx rfl ?_ ?_ (by unfold maxLen; omega) hlen hbase ?_
  · intro j u hj
    rcases j with _ | j
    · rw [addr_add, Nat.zero_add, hy, ← hj]; rfl
    · cases hj
  · intro u hu
    simp only [iv, List.map_cons, List.map_nil, List.mem_singleton] at hu
    subst hu; rfl
  · intro v' w' hown' hg _
    refine h v' w' ?_ hg
    show w'.ownsRow _ _ _ _ _ _
    have e1 : iv (is ++ [y]) = iv is ++ iv [y] := List.map_append
    rw [e1, List.length_append]; exact hown'
end
end Go.Proofs.YtfjjfickbhkpaaaDoor
