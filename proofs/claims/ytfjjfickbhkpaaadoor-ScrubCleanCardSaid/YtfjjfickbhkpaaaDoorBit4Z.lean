/-
  bitset's Count.
-/
import Derived.Test.YtfjjfickbhkpaaaDoorArrZ
import Derived.Test.YtfjjfickbhkpaaaDoorOnes
namespace Go.Proofs.YtfjjfickbhkpaaaDoor
open Go Go.RowKit

theorem run_index_sc (f : Nat → Bool) (k : Nat) (hk : k < 16) (w : World) : (Instr.index TS (.agg (sc f)) (.int .i64 k)).run Tryd.prog w = .ok (.int .u64 (wd f k : Nat)) w := by
  have hu := Tryd.underlying40
  have he := Tryd.underlying23
  have hsz : ∀ w, (sizeOf 23).run Tryd.prog w = .ok 1 w := fun w => by kernel_rfl
  have h2 : ¬ 16 ≤ k := by omega
  have hg : (sc f)[k]? = some (.int .u64 (wd f k : Nat)) := sc_get f k hk
  simp [Instr.index, run_underlying hu, asIntOf, part, isAgg, run_underlying he, hsz, h2, hg, Result.andThen]
section
variable {ops : Array Oper} {rest : List Oper} {o : Oper} {a : Act} {w : World} {Q : Exit → Act → World → Prop}
theorem wpList_index_sc (hgd : o.guard = none) (x y : Operand) (ho : o.op = .index TS x y) (f : Nat → Bool) (k : Nat) (hx : a.eval x = .agg (sc f)) (hy : a.eval y = .int .i64 k) (hk : k < 16)
    (h : wpList Tryd.prog ops Q rest (a.put o.dst (.int .u64 (wd f k : Nat))) w) : wpList Tryd.prog ops Q (o :: rest) a w := by
  refine wpList_plain hgd fun K hK => ?_
  have hk2 := hK _ _ h
  unfold Oper.wp execOp
  simp only [ho, hx, hy, Sem.run_bind, Sem.run_pure, Result.andThen_ok, run_index_sc f k hk]
  exact hk2
end
end Go.Proofs.YtfjjfickbhkpaaaDoor
