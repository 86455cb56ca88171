/-
  More arms: a value boxed, a reader built, a row of one reader, results out of a variable of many cells.
-/
import Derived.Test.YtdgcghknfhhkiaaDoorPinCheck
namespace Go.Proofs.YtdgcghknfhhkiaaDoor
open Go Go.RowKit

section
variable {ops : Array Oper} {rest : List Oper} {o : Oper} {a : Act} {w : World} {K : Act → World → Prop} {Q : Exit → Act → World → Prop}
theorem wpList_box_val (hgd : o.guard = none) (t : TypeId) (x : Operand) (ho : o.op = .box t x) (v : Value) (hv : v.cells = #[v]) (hx : a.eval x = v)
    (h : ∀ g w', w.heap.size ≤ g → Blk w' g t #[v] → Below w.heap.size w w' → wpList Tryd.prog ops Q rest (a.put o.dst (.pointer (some ⟨g, 0, none⟩))) w') : wpList Tryd.prog ops Q (o :: rest) a w := by
  have hk := h w.heap.size (w.alloc (.cells #[v] t)) (Nat.le_refl _) (heap_alloc_new _ _) ((Below.refl _ _).alloc (Nat.le_refl _) _)
  have hr : (Instr.box t v).run Tryd.prog w = .ok (.pointer (some ⟨w.heap.size, 0, none⟩)) (w.alloc (.cells v.cells t)) := rfl
  rw [hv] at hr
  refine wpList_plain hgd fun _ hK => ?_
  unfold Oper.wp execOp
  simp only [ho, hx, Sem.run_bind, Sem.run_pure, Result.andThen_ok, hr]
  exact hK _ _ hk
theorem rd_build_pin (x y z : Operand) (ho : o.op = .build PT #[(0, x), (1, y), (2, z)]) (i s : Nat) (f : Nat → Bool) (hx : a.eval x = .int .u64 (i : Nat)) (hy : a.eval y = .int .u64 (s : Nat)) (hz : a.eval z = .agg (sc f)) :
    (execOp a.eval o).run Tryd.prog w = .ok (.value (.agg (pv ⟨i, s, f⟩))) w := by
  unfold execOp
  simp only [ho, List.map_toArray, List.map_cons, List.map_nil, hx, hy, hz, Sem.run_bind, Sem.run_pure, Result.andThen_ok, build_pin]
theorem rd_build_rpin (x y z : Operand) (ho : o.op = .build RPT #[(0, x), (1, y), (2, z)]) (i s : Nat) (f : Nat → Bool) (hx : a.eval x = .int .u64 (i : Nat)) (hy : a.eval y = .int .u64 (s : Nat)) (hz : a.eval z = .agg (sc f)) :
    (execOp a.eval o).run Tryd.prog w = .ok (.value (.agg (pv ⟨i, s, f⟩))) w := by
  unfold execOp
  simp only [ho, List.map_toArray, List.map_cons, List.map_nil, hx, hy, hz, Sem.run_bind, Sem.run_pure, Result.andThen_ok, build_rpin]
theorem wpList_build_pin0 (hgd : o.guard = none) (ho : o.op = .build PT #[]) (h : wpList Tryd.prog ops Q rest (a.put o.dst (.agg (pv pn0))) w) : wpList Tryd.prog ops Q (o :: rest) a w := by
  refine wpList_plain hgd fun K hK => ?_
  have hk := hK _ _ h
  unfold Oper.wp execOp
  simp only [ho, Sem.run_bind, Sem.run_pure, Result.andThen_ok, Array.map_empty, build_pin0]
  exact hk
theorem wpList_build_rpin0 (hgd : o.guard = none) (ho : o.op = .build RPT #[]) (h : wpList Tryd.prog ops Q rest (a.put o.dst (.agg (pv pn0))) w) : wpList Tryd.prog ops Q (o :: rest) a w := by
  refine wpList_plain hgd fun K hK => ?_
  have hk := hK _ _ h
  unfold Oper.wp execOp
  simp only [ho, Sem.run_bind, Sem.run_pure, Result.andThen_ok, Array.map_empty, build_rpin0]
  exact hk
/-- A row of one reader. -/
theorem wp_slice_pin (x : Operand) (ho : o.op = .buildSlice SPT 1 #[(0, x)]) (p : Pn) (hx : a.eval x = .agg (pv p))
    (h : K (a.put o.dst (.slice (some ⟨w.heap.size, 0, none⟩) 1 1)) (w.alloc (.cells (pv p) PT))) : o.wp Tryd.prog a w K Q := by
  obtain ⟨i, s, f⟩ := p
  unfold Oper.wp execOp
  simp only [ho, List.map_toArray, List.map_cons, List.map_nil, hx, Sem.run_bind, Sem.run_pure, Result.andThen_ok, slice_pin]
  exact h
theorem wp_slice_rpin (x : Operand) (ho : o.op = .buildSlice SRPT 1 #[(0, x)]) (p : Pn) (hx : a.eval x = .agg (pv p))
    (h : K (a.put o.dst (.slice (some ⟨w.heap.size, 0, none⟩) 1 1)) (w.alloc (.cells (pv p) RPT))) : o.wp Tryd.prog a w K Q := by
  obtain ⟨i, s, f⟩ := p
  unfold Oper.wp execOp
  simp only [ho, List.map_toArray, List.map_cons, List.map_nil, hx, Sem.run_bind, Sem.run_pure, Result.andThen_ok, slice_rpin]
  exact h
theorem wpList_slice_pin (hgd : o.guard = none) (x : Operand) (ho : o.op = .buildSlice SPT 1 #[(0, x)]) (p : Pn) (hx : a.eval x = .agg (pv p))
    (h : wpList Tryd.prog ops Q rest (a.put o.dst (.slice (some ⟨w.heap.size, 0, none⟩) 1 1)) (w.alloc (.cells (pv p) PT))) : wpList Tryd.prog ops Q (o :: rest) a w :=
  wpList_plain hgd fun _ hK => wp_slice_pin x ho p hx (hK _ _ h)
theorem wpList_slice_rpin (hgd : o.guard = none) (x : Operand) (ho : o.op = .buildSlice SRPT 1 #[(0, x)]) (p : Pn) (hx : a.eval x = .agg (pv p))
    (h : wpList Tryd.prog ops Q rest (a.put o.dst (.slice (some ⟨w.heap.size, 0, none⟩) 1 1)) (w.alloc (.cells (pv p) RPT))) : wpList Tryd.prog ops Q (o :: rest) a w :=
  wpList_plain hgd fun _ hK => wp_slice_rpin x ho p hx (hK _ _ h)
end
section
variable {fn : Func} {p q r : Tmp} {t t2 : TypeId} {n : Nat}
theorem results_agg (hT : AggT t n) (h : fn.results = #[.cell p t]) (tmps : Array Value) (w : World) (g : Nat) (cs : Array Value) (hp : tmps.getD p undef = .pointer (some ⟨g, 0, none⟩)) (hg : Blk w g t2 cs) (hn : cs.size = n) :
    (results fn tmps).run Tryd.prog w = .ok (.agg cs) w := by
  have hp' : tmps[p]?.getD undef = .pointer (some ⟨g, 0, none⟩) := by simpa using hp
  simp [results, h, hp', asAddr, run_load_agg hT w g 0 cs hg.at hn]
theorem results_agg2 (hT : AggT t n) (h : fn.results = #[.cell p t, .tmp q]) (tmps : Array Value) (w : World) (g : Nat) (cs : Array Value) (v : Value) (hp : tmps.getD p undef = .pointer (some ⟨g, 0, none⟩)) (hq : tmps.getD q undef = v) (hg : Blk w g t2 cs) (hn : cs.size = n) :
    (results fn tmps).run Tryd.prog w = .ok (.tuple #[.agg cs, v]) w := by
  have hp' : tmps[p]?.getD undef = .pointer (some ⟨g, 0, none⟩) := by simpa using hp
  have hq' : tmps[q]?.getD undef = v := by simpa using hq
  simp [results, h, hp', hq', asAddr, run_load_agg hT w g 0 cs hg.at hn, Result.andThen]
theorem results_agg3 (hT : AggT t n) (h : fn.results = #[.cell p t, .tmp q, .tmp r]) (tmps : Array Value) (w : World) (g : Nat) (cs : Array Value) (v u : Value) (hp : tmps.getD p undef = .pointer (some ⟨g, 0, none⟩)) (hq : tmps.getD q undef = v) (hr : tmps.getD r undef = u) (hg : Blk w g t2 cs) (hn : cs.size = n) :
    (results fn tmps).run Tryd.prog w = .ok (.tuple #[.agg cs, v, u]) w := by
  have hp' : tmps[p]?.getD undef = .pointer (some ⟨g, 0, none⟩) := by simpa using hp
  have hq' : tmps[q]?.getD undef = v := by simpa using hq
  have hr' : tmps[r]?.getD undef = u := by simpa using hr
  simp [results, h, hp', hq', hr', asAddr, run_load_agg hT w g 0 cs hg.at hn, Result.andThen]
end
end Go.Proofs.YtdgcghknfhhkiaaDoor
