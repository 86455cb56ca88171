/-
  What BitsetTells wants beside: one place of a list of yes and no stored; the rules' forms.
-/
import Derived.Test.YtfjjfickbhkpaaaDoorTakeMathZ
import Derived.Test.YtfjjfickbhkpaaaDoorRefBZ
namespace Go.Proofs.YtfjjfickbhkpaaaDoor
open Go Go.RowKit

abbrev YT : TypeId := 4
theorem run_store_yes (w : World) (g k : Nat) (b : Bool) (v : Value) (hc : w.cell? ⟨g, k, none⟩ = some v) (hf : w.frozen? ⟨g, k, none⟩ = false) : (storeVar YT ⟨g, k, none⟩ (.bool b)).run Tryd.prog w = .ok () (w.setCell ⟨g, k, none⟩ (.bool b)) := by
  go_simp
section
variable {ops : Array Oper} {rest : List Oper} {o : Oper} {a : Act} {w : World} {K : Act → World → Prop} {Q : Exit → Act → World → Prop}
theorem wp_store_yes (x y : Operand) (ho : o.op = .store YT x y) (g k : Nat) (cs : Array Value) (b : Bool) (hx : a.eval x = .pointer (some ⟨g, k, none⟩)) (hy : a.eval y = .bool b) (hg : Blk w g TB cs) (hs : cs.size = 1024) (hk : k < 1024)
    (h : ∀ w', Blk w' g TB (cs.setIfInBounds k (.bool b)) → Turn (fun i => i = g) w w' → K (a.put o.dst undef) w') : o.wp Tryd.prog a w K Q := by
  have hc := hg.cell k
  rw [Array.getElem?_eq_getElem (by omega)] at hc
  have hf := hg.fz k
  have hK := h (w.setCell ⟨g, k, none⟩ (.bool b)) (hg.set k _) ((Turn.refl _ _).setCell _ (fun _ => rfl))
  unfold Oper.wp execOp
  simp only [ho, hx, hy, Instr.storeAt, Instr.sureAddr, Sem.run_bind, Sem.run_pure, Result.andThen_ok, run_store_yes w g k b _ hc hf]
  exact hK
theorem wpList_store_yes (hgd : o.guard = none) (x y : Operand) (ho : o.op = .store YT x y) (g k : Nat) (cs : Array Value) (b : Bool) (hx : a.eval x = .pointer (some ⟨g, k, none⟩)) (hy : a.eval y = .bool b) (hg : Blk w g TB cs) (hs : cs.size = 1024) (hk : k < 1024)
    (h : ∀ w', Blk w' g TB (cs.setIfInBounds k (.bool b)) → Turn (fun i => i = g) w w' → wpList Tryd.prog ops Q rest (a.put o.dst undef) w') : wpList Tryd.prog ops Q (o :: rest) a w :=
  wpList_plain hgd fun _ hK => wp_store_yes x y ho g k cs b hx hy hg hs hk fun w' h1 h2 => hK _ _ (h w' h1 h2)
end
/-- A load under a guard that holds. -/
theorem wpList_load_when {ops : Array Oper} {rest : List Oper} {o : Oper} {a : Act} {w : World} {Q : Exit → Act → World → Prop} (hw : Region.wanted o (yielded ops a.tmps) = true) (t : TypeId) (x : Operand) (ho : o.op = .load t x) (g : Nat) (f : Nat → Bool) (t2 : TypeId) (hx : a.eval x = .pointer (some ⟨g, 0, none⟩)) (hT : ArrT t 16) (hg : Blk w g t2 (sc f))
    (h : wpList Tryd.prog ops Q rest (a.put o.dst (.agg (sc f))) w) : wpList Tryd.prog ops Q (o :: rest) a w :=
  wpList_step fun K hK => by rw [if_pos hw]; exact wp_load_sc t x ho g f t2 hx hT hg (hK _ _ h)
theorem bc_with (f : Nat → Bool) (n : Nat) (h : n < 1024) : (bc f).setIfInBounds n (.bool true) = bc (withR f n) := by
  rw [bc_set f n true h]
  refine bc_ext (fun m hm => ?_)
  unfold withR
  by_cases e : m = n
  · subst e; rw [if_pos rfl, decide_eq_true rfl, Bool.or_true]
  · rw [if_neg e, decide_eq_false (show ¬ (m : Int) = (n : Int) by omega), Bool.or_false]
theorem bc_out (f : Nat → Bool) (n : Nat) (h : n < 1024) : (bc f).setIfInBounds n (.bool false) = bc (outR f n) := by
  rw [bc_set f n false h]
  refine bc_ext (fun m hm => ?_)
  unfold outR
  by_cases e : m = n
  · subst e; rw [if_pos rfl, decide_eq_true rfl]; simp
  · rw [if_neg e, decide_eq_false (show ¬ (m : Int) = (n : Int) by omega)]; simp
theorem bc_far (f : Nat → Bool) (x : Int) (h : x < 0 ∨ 1024 ≤ x) : bc (withR f x) = bc f ∧ bc (outR f x) = bc f := by
  have e : ∀ m : Nat, m < 1024 → decide ((m : Int) = x) = false := fun m hm => decide_eq_false (by omega)
  exact ⟨bc_ext (fun m hm => by unfold withR; rw [e m hm, Bool.or_false]), bc_ext (fun m hm => by unfold outR; rw [e m hm]; simp)⟩
theorem and_1023 (n : Nat) (h : n < 1024) : bits .and .i64 (n : Int) 1023 = (n : Int) := by
  have := bits_and_i64_nat n 1023 (by omega) (by omega)
  rw [nat_mask10, Nat.mod_eq_of_lt h] at this
  exact this
end Go.Proofs.YtfjjfickbhkpaaaDoor
