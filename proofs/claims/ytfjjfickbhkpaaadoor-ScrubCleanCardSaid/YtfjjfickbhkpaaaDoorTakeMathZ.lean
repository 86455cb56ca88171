/-
  What BitsetTakes wants beside: a set given back number by number; a set loaded, compared, made empty in a walk.
-/
import Derived.Test.YtfjjfickbhkpaaaDoorSure17Z
import Derived.Test.YtfjjfickbhkpaaaDoorArrZ
import Derived.Test.YtfjjfickbhkpaaaDoorTurnZ
import Derived.Test.YtfjjfickbhkpaaaDoorMix
namespace Go.Proofs.YtfjjfickbhkpaaaDoor
open Go Go.RowKit

/-- What Take left, and the first k again. -/
def backR (f : Nat → Bool) (n k m : Nat) : Bool := f m && (decide (cnt f m < k) || decide (n ≤ cnt f m))
theorem back_zero (f : Nat → Bool) (n : Nat) : takeR f n = backR f n 0 := by
  funext m; unfold takeR backR; rw [decide_eq_false (show ¬ cnt f m < 0 by omega), Bool.false_or]
theorem back_all (f : Nat → Bool) (n : Nat) : backR f n n = f := by
  funext m
  unfold backR
  have : (decide (cnt f m < n) || decide (n ≤ cnt f m)) = true := by
    rcases Nat.lt_or_ge (cnt f m) n with h | h
    · rw [decide_eq_true h]; rfl
    · rw [decide_eq_true h, Bool.or_true]
  rw [this, Bool.and_true]
theorem back_step (f : Nat → Bool) (n k C : Nat) (hC : cnt f 1024 = C) (hk : k < C) : sc (withR (backR f n k) (el f k : Int)) = sc (backR f n (k + 1)) := sc_ext (fun m hm => by
  obtain ⟨_, h2, h3, _⟩ := el_get f k (by rw [hC]; exact hk)
  have hon : f m = true → cnt f m = k → m = el f k := fun h5 h6 => el_only (by rw [hC]; exact hk) h5 h6
  generalize el f k = X at *
  unfold withR backR
  by_cases e : m = X
  · rw [← e] at h2 h3
    rw [h2, h3, decide_eq_true (show k < k + 1 by omega), decide_eq_true (show (m : Int) = (X : Int) by omega)]
    simp
  · rw [decide_eq_false (show ¬ (m : Int) = (X : Int) by omega), Bool.or_false]
    cases hf : f m with
    | false => rfl
    | true =>
      have : cnt f m ≠ k := fun h => e (hon hf h)
      rw [show decide (cnt f m < k + 1) = decide (cnt f m < k) by rw [Bool.eq_iff_iff, decide_eq_true_iff, decide_eq_true_iff]; omega])
/-- What the law asks of the number at place k. -/
theorem el_facts (f : Nat → Bool) (n k C : Nat) (hC : cnt f 1024 = C) (hn : n ≤ C) (hk : k < n) :
    inB f (el f k : Int) = true ∧ inB (backR f n k) (el f k : Int) = false ∧ cnt (fun m => f m && belowR (el f k : Int) m) 1024 = k := by
  obtain ⟨_, h2, h3, h4⟩ := el_get f k (by rw [hC]; omega)
  refine ⟨by rw [inB_nat f _ h4]; exact h2, ?_, ?_⟩
  · rw [inB_nat _ _ h4]
    unfold backR
    rw [h3, decide_eq_false (show ¬ k < k by omega), decide_eq_false (show ¬ n ≤ k by omega)]
    simp
  · have e : cnt (fun m => f m && belowR (el f k : Int) m) 1024 = cnt (fun m => f m && decide (m < el f k)) 1024 := cnt_ext (fun m _ => by
      have : belowR (el f k : Int) m = decide (m < el f k) := by
        unfold belowR; rw [Bool.eq_iff_iff, decide_eq_true_iff, decide_eq_true_iff]; omega
      rw [this])
    rw [e, cnt_cut f _ 1024 (by omega), h3]
theorem el_lt (f : Nat → Bool) (i j C : Nat) (hC : cnt f 1024 = C) (hj : j < C) (h : i < j) : el f i < el f j := el_asc (by rw [hC]; exact hj) h
section
variable {ops : Array Oper} {rest : List Oper} {o : Oper} {a : Act} {w : World} {K : Act → World → Prop} {Q : Exit → Act → World → Prop}
theorem rd_build_TS (ho : o.op = .build TS #[]) : (execOp a.eval o).run Tryd.prog w = .ok (.value (.agg (sc (fun _ => false)))) w := by
  unfold execOp
  simp only [ho, Sem.run_bind, Sem.run_pure, Result.andThen_ok, Array.map_empty, build_TS]
theorem wp_load_sc (t : TypeId) (x : Operand) (ho : o.op = .load t x) (g : Nat) (f : Nat → Bool) (t2 : TypeId) (hx : a.eval x = .pointer (some ⟨g, 0, none⟩)) (hT : ArrT t 16) (hg : Blk w g t2 (sc f))
    (h : K (a.put o.dst (.agg (sc f))) w) : o.wp Tryd.prog a w K Q := by
  unfold Oper.wp
  rw [rd_load_sc t x ho g f t2 hx hT hg]
  exact h
theorem wpList_eql_sc (hgd : o.guard = none) (x y : Operand) (rt : TypeId) (ho : o.op = .binOp .eql TS x y rt) (f g : Nat → Bool) (hx : a.eval x = .agg (sc f)) (hy : a.eval y = .agg (sc g)) (h : sc g = sc f)
    (hk : wpList Tryd.prog ops Q rest (a.put o.dst (.bool true)) w) : wpList Tryd.prog ops Q (o :: rest) a w := by
  refine wpList_plain hgd fun K hK => ?_
  unfold Oper.wp
  rw [rd_eql_sc x y rt ho f g hx hy h]
  exact hK _ _ hk
end
end Go.Proofs.YtfjjfickbhkpaaaDoor
