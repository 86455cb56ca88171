/-
  Two sets that are the same, told apart under a guard that holds.
-/
import Derived.Test.YtdgcghknfhhkiaaDoorPinArm
namespace Go.Proofs.YtdgcghknfhhkiaaDoor
open Go Go.RowKit
section
variable {ops : Array Oper} {rest : List Oper} {o : Oper} {a : Act} {w : World} {K : Act → World → Prop} {Q : Exit → Act → World → Prop}
theorem wpList_neq_sc_when (hw : Region.wanted o (yielded ops a.tmps) = true) (x y : Operand) (rt : TypeId) (ho : o.op = .binOp .neq TS x y rt) (f g : Nat → Bool) (hx : a.eval x = .agg (sc f)) (hy : a.eval y = .agg (sc g)) (h : sc g = sc f)
    (hk : wpList Tryd.prog ops Q rest (a.put o.dst (.bool false)) w) : wpList Tryd.prog ops Q (o :: rest) a w :=
  wpList_step fun K hK => by
    rw [if_pos hw]
    unfold Oper.wp
    rw [rd_neq_sc x y rt ho f g hx hy h]
    exact hK _ _ hk
end
end Go.Proofs.YtdgcghknfhhkiaaDoor
