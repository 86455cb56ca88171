/-
  bitset's All: which numbers, ascending.
-/
import Derived.Test.YtfjjfickbhkpaaaDoorBit4Z
import Derived.Test.YtfjjfickbhkpaaaDoorPagesZ
namespace Go.Proofs.YtfjjfickbhkpaaaDoor
open Go Go.RowKit

abbrev ZT : TypeId := 3
abbrev SZT : TypeId := 27
theorem zcell_new (w : World) (T : TypeId) (y : Int) : (w.alloc (.cells #[.int .i64 y] T)).cell? ⟨w.heap.size, 0, none⟩ = some (.int .i64 y) := by simp
/-- The numbers below k, as ints. -/
def eI (f : Nat → Bool) (k : Nat) : List Int := (els f k).map (fun n : Nat => (n : Int))
theorem eI_len (f : Nat → Bool) (k : Nat) : (eI f k).length = cnt f k := by rw [eI, List.length_map, els_len]
theorem eI_ia (f : Nat → Bool) (i : Nat) (h : i < cnt f 1024) : ia (eI f 1024) i = (el f i : Int) := by
  obtain ⟨h1, _⟩ := el_get f i h
  rw [ia, List.getD_eq_getElem?_getD, eI, List.getElem?_map, h1]; rfl
section
variable {P : Program} {w : World} {ops : Array Oper} {rest : List Oper} {o : Oper} {a : Act} {Q : Exit → Act → World → Prop}
/-- make of an empty row with room. -/
theorem wpList_make_room (hg : o.guard = none) (l c : Operand) (t : TypeId) (hop : o.op = Op.makeSlice t l c)
    (h1 : P.underlying t = some (.slice ZT)) (h2 : (P.info? ZT).map (fun i => (i.zero, i.size, i.bytes)) = some (some (.int .i64 0), 1, 8))
    (kl kc : IntKind) (n : Nat) (hl : a.eval l = .int kl 0) (hc : a.eval c = .int kc n) (b : n ≤ 1024) (B : Nat) (hB : B ≤ w.heap.size)
    (hK : ∀ v w', w'.ownsRow B ZT 1 v ([] : List Int).length (iv []) → Below w.heap.size w w' → wpList P ops Q rest (a.put o.dst v) w') :
    wpList P ops Q (o :: rest) a w := by
  obtain ⟨i0, hi, hz0, hz1, hz2⟩ := info_parts h2
  refine wpList_make_own w hg l c t hop B ZT i0 (.int .i64 0) 1 h1 hi hz0 hz1 kl kc n n hl hc rfl (by rw [hz2]; omega) (by unfold maxLen; omega) hB ?_
  intro w1 hown hgrow
  exact hK _ w1 hown ((Below.refl w.heap.size w).grown hgrow (Nat.le_refl _) (by intro k hk; cases hk))
end
end Go.Proofs.YtfjjfickbhkpaaaDoor
