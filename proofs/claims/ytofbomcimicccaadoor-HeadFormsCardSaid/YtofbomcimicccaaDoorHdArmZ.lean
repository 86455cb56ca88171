/-
  A struct built out of its fields, whatever its type; two heads that are the same, compared.
-/
import Derived.Test.YtofbomcimicccaaDoorHdRowZ
namespace Go.Proofs.YtofbomcimicccaaDoor
open Go Go.RowKit
section
variable {ops : Array Oper} {rest : List Oper} {o : Oper} {a : Act} {w : World} {K : Act → World → Prop} {Q : Exit → Act → World → Prop}
theorem rd_build (t : TypeId) (fs : List (Nat × Operand)) (ho : o.op = .build t fs.toArray) (vs : List (Nat × Value)) (hv : fs.map (fun (i, x) => (i, a.eval x)) = vs) (cs : Array Value) (hr : (Instr.build t vs.toArray).run Tryd.prog w = .ok (.agg cs) w) :
    (execOp a.eval o).run Tryd.prog w = .ok (.value (.agg cs)) w := by
  unfold execOp
  simp only [ho, List.map_toArray, hv, Sem.run_bind, Sem.run_pure, Result.andThen_ok, hr]
theorem wpList_build (hgd : o.guard = none) (t : TypeId) (fs : List (Nat × Operand)) (ho : o.op = .build t fs.toArray) (vs : List (Nat × Value)) (hv : fs.map (fun (i, x) => (i, a.eval x)) = vs) (cs : Array Value) (hr : (Instr.build t vs.toArray).run Tryd.prog w = .ok (.agg cs) w)
    (h : wpList Tryd.prog ops Q rest (a.put o.dst (.agg cs)) w) : wpList Tryd.prog ops Q (o :: rest) a w :=
  wpList_plain hgd fun _ hK => by
    unfold Oper.wp
    rw [rd_build t fs ho vs hv cs hr]
    exact hK _ _ h
theorem rd_eql_h (x y : Operand) (rt : TypeId) (ho : o.op = .binOp .eql HT x y rt) (h g : Hd) (hx : a.eval x = .agg (hv h)) (hy : a.eval y = .agg (hv g)) (hh : g = h) :
    (execOp a.eval o).run Tryd.prog w = .ok (.value (.bool true)) w := by
  rw [hh] at hy
  unfold execOp
  simp only [ho, hx, hy, Sem.run_bind, Sem.run_pure, Result.andThen_ok, run_eqGuard_agg (hm := guard_HT), run_eql_h]
theorem rd_neq_h (x y : Operand) (rt : TypeId) (ho : o.op = .binOp .neq HT x y rt) (h g : Hd) (hx : a.eval x = .agg (hv h)) (hy : a.eval y = .agg (hv g)) (hh : g = h) :
    (execOp a.eval o).run Tryd.prog w = .ok (.value (.bool false)) w := by
  rw [hh] at hy
  unfold execOp
  simp only [ho, hx, hy, Sem.run_bind, Sem.run_pure, Result.andThen_ok, run_eqGuard_agg (hm := guard_HT), run_neq_h]
theorem wpList_eql_h_when (hw : Region.wanted o (yielded ops a.tmps) = true) (x y : Operand) (rt : TypeId) (ho : o.op = .binOp .eql HT x y rt) (h g : Hd) (hx : a.eval x = .agg (hv h)) (hy : a.eval y = .agg (hv g)) (hh : g = h)
    (hk : wpList Tryd.prog ops Q rest (a.put o.dst (.bool true)) w) : wpList Tryd.prog ops Q (o :: rest) a w :=
  wpList_step fun K hK => by
    rw [if_pos hw]
    unfold Oper.wp
    rw [rd_eql_h x y rt ho h g hx hy hh]
    exact hK _ _ hk
theorem wpList_neq_h_when (hw : Region.wanted o (yielded ops a.tmps) = true) (x y : Operand) (rt : TypeId) (ho : o.op = .binOp .neq HT x y rt) (h g : Hd) (hx : a.eval x = .agg (hv h)) (hy : a.eval y = .agg (hv g)) (hh : g = h)
    (hk : wpList Tryd.prog ops Q rest (a.put o.dst (.bool false)) w) : wpList Tryd.prog ops Q (o :: rest) a w :=
  wpList_step fun K hK => by
    rw [if_pos hw]
    unfold Oper.wp
    rw [rd_neq_h x y rt ho h g hx hy hh]
    exact hK _ _ hk
end
end Go.Proofs.YtofbomcimicccaaDoor
