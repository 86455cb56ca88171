/-
  A list of 1,024 yes and no as a variable: laid, stored, loaded.
-/
import Derived.Test.YtfjjfickbhkpaaaDoorArrZ
namespace Go.Proofs.YtfjjfickbhkpaaaDoor
open Go Go.RowKit

abbrev TB : TypeId := 43
theorem Blk.yes {w : World} {b : Nat} {t : TypeId} {f : Nat → Bool} (h : Blk w b t (bc f)) (i : Nat) (hi : i < 1024) : w.cell? ⟨b, i, none⟩ = some (.bool (f i)) := by rw [h.cell, bc_get f i hi]
theorem arr_TB : ArrT TB 1024 := ⟨⟨_, Tryd.underlying43⟩, by kernel_rfl⟩
theorem bc_one (f : Nat → Bool) : (bc f).all (·.oneCell') = true := by
  rw [Array.all_eq_true_iff_forall_mem]
  intro u hu
  unfold bc at hu
  rw [List.mem_toArray, List.mem_map] at hu
  obtain ⟨k, _, rfl⟩ := hu
  rfl
theorem arrz_TB : ArrZ TB (bc (fun _ => false)) := fun w => by kernel_rfl
section
variable {ops : Array Oper} {rest : List Oper} {o : Oper} {a : Act} {w : World} {K : Act → World → Prop} {Q : Exit → Act → World → Prop}
theorem rd_load_bc (x : Operand) (ho : o.op = .load TB x) (g : Nat) (f : Nat → Bool) (hx : a.eval x = .pointer (some ⟨g, 0, none⟩)) (hg : Blk w g TB (bc f)) :
    (execOp a.eval o).run Tryd.prog w = .ok (.value (.agg (bc f))) w := rd_load_arr TB x ho g _ TB hx arr_TB hg (bc_size f)
theorem wp_store_bc (x y : Operand) (ho : o.op = .store TB x y) (g : Nat) (f f0 : Nat → Bool) (hx : a.eval x = .pointer (some ⟨g, 0, none⟩)) (hy : a.eval y = .agg (bc f)) (hg : Blk w g TB (bc f0))
    (h : ∀ w', Blk w' g TB (bc f) → Turn (fun i => i = g) w w' → w'.heap.size = w.heap.size → K (a.put o.dst undef) w') : o.wp Tryd.prog a w K Q :=
  wp_store_arr TB x y ho g _ _ TB hx hy arr_TB hg (bc_size f) (bc_size f0) (bc_one f) h
theorem wpList_store_bc (hgd : o.guard = none) (x y : Operand) (ho : o.op = .store TB x y) (g : Nat) (f f0 : Nat → Bool) (hx : a.eval x = .pointer (some ⟨g, 0, none⟩)) (hy : a.eval y = .agg (bc f)) (hg : Blk w g TB (bc f0))
    (h : ∀ w', Blk w' g TB (bc f) → Turn (fun i => i = g) w w' → w'.heap.size = w.heap.size → wpList Tryd.prog ops Q rest (a.put o.dst undef) w') : wpList Tryd.prog ops Q (o :: rest) a w :=
  wpList_plain hgd fun _ hK => wp_store_bc x y ho g f f0 hx hy hg fun w' h1 h2 h3 => hK _ _ (h w' h1 h2 h3)
theorem wpList_load_bc (hgd : o.guard = none) (x : Operand) (ho : o.op = .load TB x) (g : Nat) (f : Nat → Bool) (hx : a.eval x = .pointer (some ⟨g, 0, none⟩)) (hg : Blk w g TB (bc f))
    (h : wpList Tryd.prog ops Q rest (a.put o.dst (.agg (bc f))) w) : wpList Tryd.prog ops Q (o :: rest) a w := by
  obtain ⟨⟨e, hu⟩, hi⟩ := arr_TB
  exact wpList_load_row hgd TB x ho g hx TB _ _ _ hg hu rfl (by rw [hi, bc_size]) h
end
theorem results_bc {fn : Func} {p : Tmp} (h : fn.results = #[.cell p TB]) (tmps : Array Value) (w : World) (g : Nat) (f : Nat → Bool) (hp : tmps.getD p undef = .pointer (some ⟨g, 0, none⟩)) (hg : Blk w g TB (bc f)) :
    (results fn tmps).run Tryd.prog w = .ok (.agg (bc f)) w := by
  obtain ⟨⟨e, hu⟩, hi⟩ := arr_TB
  exact results_cell_row h tmps w g TB _ _ _ hp hg hu rfl (by rw [hi, bc_size])
end Go.Proofs.YtfjjfickbhkpaaaDoor
