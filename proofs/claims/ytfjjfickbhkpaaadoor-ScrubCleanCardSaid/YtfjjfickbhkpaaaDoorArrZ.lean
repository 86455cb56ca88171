/-
  A set as a variable of array type: laid, stored, loaded, compared; in a walk, and in a region that draws its order.
-/
import Derived.Test.YtfjjfickbhkpaaaDoorAggZ
import Derived.Test.YtfjjfickbhkpaaaDoorProg
import Derived.Test.YtfjjfickbhkpaaaDoorBitMath
import Derived.Test.YtfjjfickbhkpaaaDoorGr
import Derived.Test.YtfjjfickbhkpaaaDoorTurnZ
import Derived.Laws.Rows
import Derived.Laws.Tables
import Derived.Laws.StructEq
import Derived.WalkKit
import Derived.Lib.Hide
namespace Go.Proofs.YtfjjfickbhkpaaaDoor
open Go Go.RowKit

abbrev TS : TypeId := 40
abbrev TW : TypeId := 24
theorem Blk.word {w : World} {b : Nat} {t : TypeId} {f : Nat → Bool} (h : Blk w b t (sc f)) (i : Nat) (hi : i < 16) : w.cell? ⟨b, i, none⟩ = some (.int .u64 (wd f i : Nat)) := by rw [h.cell, sc_get f i hi]

/-- An array type of so many cells. -/
def ArrT (t : TypeId) (n : Nat) : Prop := (∃ e, Tryd.prog.underlying t = some (.array n e)) ∧ (Tryd.prog.info? t).map (·.size) = some n
theorem arr_TS : ArrT TS 16 := ⟨⟨_, Tryd.underlying40⟩, by kernel_rfl⟩
theorem arr_TW : ArrT TW 16 := ⟨⟨_, Tryd.underlying24⟩, by kernel_rfl⟩
theorem sc_one (f : Nat → Bool) : (sc f).all (·.oneCell') = true := by
  rw [Array.all_eq_true_iff_forall_mem]
  intro u hu
  simp only [sc, List.mem_toArray, List.mem_map] at hu
  obtain ⟨k, _, rfl⟩ := hu
  rfl
theorem arrz_TS : ArrZ TS (sc (fun _ => false)) := fun w => by kernel_rfl
theorem arrz_TW : ArrZ TW (sc (fun _ => false)) := fun w => by kernel_rfl
theorem run_load_arr {t t2 : TypeId} {n : Nat} (hT : ArrT t n) (w : World) (g : Nat) (cs : Array Value) (hg : Blk w g t2 cs) (hn : cs.size = n) : (loadVar t ⟨g, 0, none⟩).run Tryd.prog w = .ok (.agg cs) w := by
  obtain ⟨⟨e, hu⟩, hi⟩ := hT
  exact run_loadVar_row w g t2 t cs _ _ hg hu rfl (by rw [hi, hn])
section
variable {ops : Array Oper} {rest : List Oper} {o : Oper} {a : Act} {w : World} {K : Act → World → Prop} {Q : Exit → Act → World → Prop}
theorem rd_load_arr (t : TypeId) (x : Operand) (ho : o.op = .load t x) (g : Nat) (cs : Array Value) (t2 : TypeId) (hx : a.eval x = .pointer (some ⟨g, 0, none⟩)) {n : Nat} (hT : ArrT t n) (hg : Blk w g t2 cs) (hn : cs.size = n) :
    (execOp a.eval o).run Tryd.prog w = .ok (.value (.agg cs)) w := by
  unfold execOp
  simp only [ho, hx, Instr.loadAt, Instr.sureAddr, Sem.run_bind, Sem.run_pure, Result.andThen_ok, run_load_arr hT w g cs hg hn]
theorem rd_load_sc (t : TypeId) (x : Operand) (ho : o.op = .load t x) (g : Nat) (f : Nat → Bool) (t2 : TypeId) (hx : a.eval x = .pointer (some ⟨g, 0, none⟩)) (hT : ArrT t 16) (hg : Blk w g t2 (sc f)) :
    (execOp a.eval o).run Tryd.prog w = .ok (.value (.agg (sc f))) w := rd_load_arr t x ho g _ t2 hx hT hg (sc_size f)
theorem wp_store_arr (t : TypeId) (x y : Operand) (ho : o.op = .store t x y) (g : Nat) (cs old : Array Value) (t2 : TypeId) (hx : a.eval x = .pointer (some ⟨g, 0, none⟩)) (hy : a.eval y = .agg cs) {n : Nat} (hT : ArrT t n) (hg : Blk w g t2 old) (hn : cs.size = n) (hold : old.size = n) (h1 : cs.all (·.oneCell') = true)
    (h : ∀ w', Blk w' g t2 cs → Turn (fun i => i = g) w w' → w'.heap.size = w.heap.size → K (a.put o.dst undef) w') : o.wp Tryd.prog a w K Q := by
  have hk := h (w.setRow g cs) (setRow_heap w g _ _ _ _ hg) ⟨rfl, rfl, rfl, by simp, fun i _ hne => setRow_other w g i _ hne⟩ (by simp)
  exact wp_store_row t x y ho g cs hx hy t2 _ hg (by rw [hT.2, hn]) (by rw [hn, hold]) h1 hk
theorem wp_store_sc (t : TypeId) (x y : Operand) (ho : o.op = .store t x y) (g : Nat) (f f0 : Nat → Bool) (t2 : TypeId) (hx : a.eval x = .pointer (some ⟨g, 0, none⟩)) (hy : a.eval y = .agg (sc f)) (hT : ArrT t 16) (hg : Blk w g t2 (sc f0))
    (h : ∀ w', Blk w' g t2 (sc f) → Turn (fun i => i = g) w w' → w'.heap.size = w.heap.size → K (a.put o.dst undef) w') : o.wp Tryd.prog a w K Q :=
  wp_store_arr t x y ho g _ _ t2 hx hy hT hg (sc_size f) (sc_size f0) (sc_one f) h
theorem wpList_store_sc (hgd : o.guard = none) (t : TypeId) (x y : Operand) (ho : o.op = .store t x y) (g : Nat) (f f0 : Nat → Bool) (t2 : TypeId) (hx : a.eval x = .pointer (some ⟨g, 0, none⟩)) (hy : a.eval y = .agg (sc f)) (hT : ArrT t 16) (hg : Blk w g t2 (sc f0))
    (h : ∀ w', Blk w' g t2 (sc f) → Turn (fun i => i = g) w w' → w'.heap.size = w.heap.size → wpList Tryd.prog ops Q rest (a.put o.dst undef) w') : wpList Tryd.prog ops Q (o :: rest) a w :=
  wpList_plain hgd fun _ hK => wp_store_sc t x y ho g f f0 t2 hx hy hT hg fun w' h1 h2 h3 => hK _ _ (h w' h1 h2 h3)
theorem wpList_load_sc (hgd : o.guard = none) (t : TypeId) (x : Operand) (ho : o.op = .load t x) (g : Nat) (f : Nat → Bool) (t2 : TypeId) (hx : a.eval x = .pointer (some ⟨g, 0, none⟩)) (hT : ArrT t 16) (hg : Blk w g t2 (sc f))
    (h : wpList Tryd.prog ops Q rest (a.put o.dst (.agg (sc f))) w) : wpList Tryd.prog ops Q (o :: rest) a w := by
  obtain ⟨⟨e, hu⟩, hi⟩ := hT
  exact wpList_load_row hgd t x ho g hx t2 _ _ _ hg hu rfl (by rw [hi, sc_size]) h
end
theorem results_sc {fn : Func} {p : Tmp} {t t2 : TypeId} (hT : ArrT t 16) (h : fn.results = #[.cell p t]) (tmps : Array Value) (w : World) (g : Nat) (f : Nat → Bool) (hp : tmps.getD p undef = .pointer (some ⟨g, 0, none⟩)) (hg : Blk w g t2 (sc f)) :
    (results fn tmps).run Tryd.prog w = .ok (.agg (sc f)) w := by
  obtain ⟨⟨e, hu⟩, hi⟩ := hT
  exact results_cell_row h tmps w g t2 _ _ _ hp hg hu rfl (by rw [hi, sc_size])

/-! ### Two sets compared -/
theorem guard_TS : Tryd.prog.eqGuardType Tryd.prog.depth TS = false := by kernel_rfl
section
variable {P : Program} (w : World)
theorem run_equalIn_words (d : Nat) (t e : TypeId) (n : Nat) (ht : P.underlying t = some (.array n e)) (he : P.underlying e = some (.int .u64)) (hsz : ∀ w, (sizeOf e).run P w = .ok 1 w)
    (xs : List Nat) (hx : xs.length = n) (cs : Array Value) (hc : cs = (xs.map (fun k : Nat => Value.int .u64 k)).toArray) :
    (Op.equalIn (d + 2) t (.agg cs) (.agg cs)).run P w = .ok true w := by
  rw [hc, Op.equalIn]
  simp only [Sem.run_bind, run_underlying ht, Result.andThen_ok, hsz, Std.Legacy.Range.forIn_eq_forIn_range', Std.Legacy.Range.size, Nat.sub_zero, Nat.add_sub_cancel, Nat.div_one]
  have hl : ∀ i ∈ List.range' 0 n 1, i < n := fun i hi => by simpa using (List.mem_range'_1.1 hi).2
  generalize List.range' 0 n 1 = l at hl ⊢
  induction l with
  | nil => simp
  | cons i l ih =>
    have hi : i < n := hl i (by simp)
    have px : (part e (xs.map (fun k : Nat => Value.int .u64 k)).toArray (i * 1)).run P w = .ok (.int .u64 (xs.getD i 0 : Nat)) w := by
      simp [part, isAgg, run_underlying he, List.getD, List.getElem?_eq_getElem (show i < xs.length by omega)]
    have pe : (Op.equalIn (d + 1) e (.int .u64 (xs.getD i 0 : Nat)) (.int .u64 (xs.getD i 0 : Nat))).run P w = .ok true w := by
      rw [run_equalIn_int w d e .u64 .u64 _ _ he]
      simp
    simp only [List.forIn_cons, Sem.run_bind, px, pe, Result.andThen_ok]
    simp only [Bool.not_true, Bool.false_eq_true, if_false, Sem.run_pure, Result.andThen_ok]
    exact ih fun j hj => hl j (by simp [hj])
end
theorem equal_sc (f : Nat → Bool) (w : World) : (Op.equalIn 10000 TS (.agg (sc f)) (.agg (sc f))).run Tryd.prog w = .ok true w :=
  run_equalIn_words w 9998 TS 23 16 Tryd.underlying40 Tryd.underlying23 (fun w => by kernel_rfl) ((List.range 16).map (wd f)) (by simp) _ (by unfold sc; rw [List.map_map]; rfl)
theorem run_eql_sc (f : Nat → Bool) (w : World) : (binOp .eql TS (.agg (sc f)) (.agg (sc f))).run Tryd.prog w = .ok (.bool true) w := by
  rw [run_eql_struct, equal_sc f w]; rfl
theorem run_neq_sc (f : Nat → Bool) (w : World) : (binOp .neq TS (.agg (sc f)) (.agg (sc f))).run Tryd.prog w = .ok (.bool false) w := by
  rw [run_neq_struct, equal_sc f w]; rfl
section
variable {ops : Array Oper} {rest : List Oper} {o : Oper} {a : Act} {w : World} {K : Act → World → Prop} {Q : Exit → Act → World → Prop}
theorem rd_eql_sc (x y : Operand) (rt : TypeId) (ho : o.op = .binOp .eql TS x y rt) (f g : Nat → Bool) (hx : a.eval x = .agg (sc f)) (hy : a.eval y = .agg (sc g)) (h : sc g = sc f) :
    (execOp a.eval o).run Tryd.prog w = .ok (.value (.bool true)) w := by
  rw [h] at hy
  unfold execOp
  simp only [ho, hx, hy, Sem.run_bind, Sem.run_pure, Result.andThen_ok, run_eqGuard_agg (hm := guard_TS), run_eql_sc]
theorem rd_neq_sc (x y : Operand) (rt : TypeId) (ho : o.op = .binOp .neq TS x y rt) (f g : Nat → Bool) (hx : a.eval x = .agg (sc f)) (hy : a.eval y = .agg (sc g)) (h : sc g = sc f) :
    (execOp a.eval o).run Tryd.prog w = .ok (.value (.bool false)) w := by
  rw [h] at hy
  unfold execOp
  simp only [ho, hx, hy, Sem.run_bind, Sem.run_pure, Result.andThen_ok, run_eqGuard_agg (hm := guard_TS), run_neq_sc]
end
end Go.Proofs.YtfjjfickbhkpaaaDoor
