/-
  Aggregates: a variable of many cells: boxed, laid, loaded, stored, wherever it lies; results out of one. No type of the program's own.
-/
import Derived.Test.YtfjjfickbhkpaaaDoorProg
import Derived.Test.YtfjjfickbhkpaaaDoorGr
import Derived.Test.YtfjjfickbhkpaaaDoorTurnZ
import Derived.Laws.Rows
import Derived.Laws.Tables
import Derived.Laws.ResultCell
import Derived.Laws.StructEq
import Derived.WalkKit
import Derived.Lib.Hide
namespace Go.Proofs.YtfjjfickbhkpaaaDoor
open Go Go.RowKit

/-- Block b is a variable of this type that holds these cells. -/
def Blk (w : World) (b : Nat) (t : TypeId) (cs : Array Value) : Prop := w.heap[b]? = some (.cells cs t (0, 0))
theorem Blk.lt {w : World} {b : Nat} {t : TypeId} {cs : Array Value} (h : Blk w b t cs) : b < w.heap.size := (Array.getElem?_eq_some_iff.1 h).1
theorem Blk.below {w w' : World} {b B : Nat} {t : TypeId} {cs : Array Value} (h : Blk w b t cs) (hb : Below B w w') (hg : b < B) : Blk w' b t cs := (hb.block b hg).trans h
theorem Blk.ext {w w' : World} {b : Nat} {t : TypeId} {cs : Array Value} (h : Blk w b t cs) (hb : Ext w w') : Blk w' b t cs := h.below hb h.lt
theorem Blk.turn {F : Nat → Prop} {w w' : World} {b : Nat} {t : TypeId} {cs : Array Value} (h : Blk w b t cs) (ht : Turn F w w') (hF : ¬ F b) : Blk w' b t cs := ht.hg h hF
theorem Blk.new (w : World) (t : TypeId) (cs : Array Value) : Blk (w.alloc (.cells cs t)) w.heap.size t cs := heap_alloc_new w _
theorem Blk.cell {w : World} {b : Nat} {t : TypeId} {cs : Array Value} (h : Blk w b t cs) (i : Nat) : w.cell? ⟨b, i, none⟩ = cs[i]? := cell_of_row w b i cs t (0, 0) h
theorem Blk.fz {w : World} {b : Nat} {t : TypeId} {cs : Array Value} (h : Blk w b t cs) (i : Nat) : w.frozen? ⟨b, i, none⟩ = false := frozen_of_row w b i cs t h
theorem Blk.set {w : World} {b : Nat} {t : TypeId} {cs : Array Value} (h : Blk w b t cs) (i : Nat) (v : Value) : Blk (w.setCell ⟨b, i, none⟩ v) b t (cs.setIfInBounds i v) := heap_setCell_same w b i cs t v h
/-- A variable's zero value, of an array type. -/
def ArrZ (t : TypeId) (cs : Array Value) : Prop := ∀ w : World, (Instr.alloc t true (.tuple #[])).run Tryd.prog w = .ok (.pointer (some ⟨w.heap.size, 0, none⟩)) (w.alloc (.cells cs t))
/-- A struct or array type of so many cells. -/
def AggT (t : TypeId) (n : Nat) : Prop := (∃ d, Tryd.prog.underlying t = some d ∧ (match d with | .struct _ | .array _ _ => true | _ => false) = true) ∧ (Tryd.prog.info? t).map (·.size) = some n
/-- Cells at a place. -/
def At (w : World) (g o : Nat) (cs : Array Value) : Prop := ∀ (j : Nat) (u : Value), cs[j]? = some u → w.cell? ⟨g, o + j, none⟩ = some u
theorem Blk.at {w : World} {b : Nat} {t : TypeId} {cs : Array Value} (h : Blk w b t cs) : At w b 0 cs := fun j u hu => by rw [Nat.zero_add, h.cell]; exact hu
theorem At.lt {w : World} {g o : Nat} {cs : Array Value} (h : At w g o cs) (h0 : 0 < cs.size) : g < w.heap.size :=
  block_lt_of_cell (a := ⟨g, o + 0, none⟩) (h 0 _ (Array.getElem?_eq_getElem h0))
theorem At.below {w w' : World} {g o B : Nat} {cs : Array Value} (h : At w g o cs) (hb : Below B w w') (hB : w.heap.size ≤ B) : At w' g o cs := fun j u hu => by
  have := h j u hu
  rw [hb.cell (p := ⟨g, o + j, none⟩) (Nat.lt_of_lt_of_le (block_lt_of_cell this) hB)]; exact this
theorem At.ext {w w' : World} {g o : Nat} {cs : Array Value} (h : At w g o cs) (hb : Ext w w') : At w' g o cs := h.below hb (Nat.le_refl _)
theorem addr_plus (b o j : Nat) : (⟨b, o, none⟩ : Addr).add j = ⟨b, o + j, none⟩ := by unfold Addr.add; split <;> simp_all
theorem run_load_agg {t : TypeId} {n : Nat} (hT : AggT t n) (w : World) (g o : Nat) (cs : Array Value) (hc : At w g o cs) (hn : cs.size = n) : (loadVar t ⟨g, o, none⟩).run Tryd.prog w = .ok (.agg cs) w := by
  obtain ⟨⟨d, hu, hd⟩, hi⟩ := hT
  have hl : (loadCells ⟨g, o, none⟩ cs.toList.length).run Tryd.prog w = .ok cs.toList.toArray w :=
    run_loadCells_list (P := Tryd.prog) w ⟨g, o, none⟩ cs.toList (fun j v hv => by
      rw [addr_plus]
      exact hc j v (by simpa using hv))
  cases hq : Tryd.prog.info? t with
  | none => simp [hq] at hi
  | some i =>
    have hs : i.size = cs.size := by rw [hn]; simpa [hq] using hi
    have hagg : (isAgg t).run Tryd.prog w = .ok true w := by
      unfold isAgg
      rw [Sem.run_bind, run_underlying hu w]
      cases d <;> simp_all
    simp only [Array.length_toList, Array.toArray_toList] at hl
    simp [loadVar, Sem.run_bind, hagg, sizeOf, typeInfo, hq, hs, hl]
section
variable {ops : Array Oper} {rest : List Oper} {o : Oper} {a : Act} {w : World} {K : Act → World → Prop} {Q : Exit → Act → World → Prop}
theorem rd_load_agg (t : TypeId) (x : Operand) (ho : o.op = .load t x) (g q : Nat) (cs : Array Value) (hx : a.eval x = .pointer (some ⟨g, q, none⟩)) {n : Nat} (hT : AggT t n) (hc : At w g q cs) (hn : cs.size = n) :
    (execOp a.eval o).run Tryd.prog w = .ok (.value (.agg cs)) w := by
  unfold execOp
  simp only [ho, hx, Instr.loadAt, Instr.sureAddr, Sem.run_bind, Sem.run_pure, Result.andThen_ok, run_load_agg hT w g q cs hc hn]
theorem wp_load_agg (t : TypeId) (x : Operand) (ho : o.op = .load t x) (g q : Nat) (cs : Array Value) (hx : a.eval x = .pointer (some ⟨g, q, none⟩)) {n : Nat} (hT : AggT t n) (hc : At w g q cs) (hn : cs.size = n)
    (h : K (a.put o.dst (.agg cs)) w) : o.wp Tryd.prog a w K Q := by
  unfold Oper.wp
  rw [rd_load_agg t x ho g q cs hx hT hc hn]
  exact h
theorem wpList_load_agg (hgd : o.guard = none) (t : TypeId) (x : Operand) (ho : o.op = .load t x) (g q : Nat) (cs : Array Value) (hx : a.eval x = .pointer (some ⟨g, q, none⟩)) {n : Nat} (hT : AggT t n) (hc : At w g q cs) (hn : cs.size = n)
    (h : wpList Tryd.prog ops Q rest (a.put o.dst (.agg cs)) w) : wpList Tryd.prog ops Q (o :: rest) a w :=
  wpList_plain hgd fun _ hK => wp_load_agg t x ho g q cs hx hT hc hn (hK _ _ h)
theorem wpList_load_agg_when (hw : Region.wanted o (yielded ops a.tmps) = true) (t : TypeId) (x : Operand) (ho : o.op = .load t x) (g q : Nat) (cs : Array Value) (hx : a.eval x = .pointer (some ⟨g, q, none⟩)) {n : Nat} (hT : AggT t n) (hc : At w g q cs) (hn : cs.size = n)
    (h : wpList Tryd.prog ops Q rest (a.put o.dst (.agg cs)) w) : wpList Tryd.prog ops Q (o :: rest) a w :=
  wpList_step fun K hK => by rw [if_pos hw]; exact wp_load_agg t x ho g q cs hx hT hc hn (hK _ _ h)
theorem wp_store_agg (t : TypeId) (x y : Operand) (ho : o.op = .store t x y) (g : Nat) (cs old : Array Value) (t2 : TypeId) (hx : a.eval x = .pointer (some ⟨g, 0, none⟩)) (hy : a.eval y = .agg cs) {n : Nat} (hT : AggT t n) (hg : Blk w g t2 old) (hn : cs.size = n) (hold : old.size = n) (h1 : cs.all (·.oneCell') = true)
    (h : ∀ w', Blk w' g t2 cs → Turn (fun i => i = g) w w' → w'.heap.size = w.heap.size → K (a.put o.dst undef) w') : o.wp Tryd.prog a w K Q := by
  have hk := h (w.setRow g cs) (setRow_heap w g _ _ _ _ hg) ⟨rfl, rfl, rfl, by simp, fun i _ hne => setRow_other w g i _ hne⟩ (by simp)
  exact wp_store_row t x y ho g cs hx hy t2 _ hg (by rw [hT.2, hn]) (by rw [hn, hold]) h1 hk
theorem wpList_store_agg (hgd : o.guard = none) (t : TypeId) (x y : Operand) (ho : o.op = .store t x y) (g : Nat) (cs old : Array Value) (t2 : TypeId) (hx : a.eval x = .pointer (some ⟨g, 0, none⟩)) (hy : a.eval y = .agg cs) {n : Nat} (hT : AggT t n) (hg : Blk w g t2 old) (hn : cs.size = n) (hold : old.size = n) (h1 : cs.all (·.oneCell') = true)
    (h : ∀ w', Blk w' g t2 cs → Turn (fun i => i = g) w w' → w'.heap.size = w.heap.size → wpList Tryd.prog ops Q rest (a.put o.dst undef) w') : wpList Tryd.prog ops Q (o :: rest) a w :=
  wpList_plain hgd fun _ hK => wp_store_agg t x y ho g cs old t2 hx hy hT hg hn hold h1 fun w' h1 h2 h3 => hK _ _ (h w' h1 h2 h3)
end
section
variable {ops : Array Oper} {rest : List Oper} {o : Oper} {a : Act} {w : World} {K : Act → World → Prop} {Q : Exit → Act → World → Prop}
theorem wp_box_arr (t : TypeId) (x : Operand) (ho : o.op = .box t x) (cs : Array Value) (hx : a.eval x = .agg cs)
    (h : ∀ g w', w.heap.size ≤ g → Blk w' g t cs → Below w.heap.size w w' → K (a.put o.dst (.pointer (some ⟨g, 0, none⟩))) w') : o.wp Tryd.prog a w K Q := by
  have hk := h w.heap.size (w.alloc (.cells cs t)) (Nat.le_refl _) (heap_alloc_new _ _) ((Below.refl _ _).alloc (Nat.le_refl _) _)
  have hr : (Instr.box t (.agg cs)).run Tryd.prog w = .ok (.pointer (some ⟨w.heap.size, 0, none⟩)) (w.alloc (.cells cs t)) := rfl
  unfold Oper.wp execOp
  simp only [ho, hx, Sem.run_bind, Sem.run_pure, Result.andThen_ok, hr]
  exact hk
theorem wpList_box_arr (hgd : o.guard = none) (t : TypeId) (x : Operand) (ho : o.op = .box t x) (cs : Array Value) (hx : a.eval x = .agg cs)
    (h : ∀ g w', w.heap.size ≤ g → Blk w' g t cs → Below w.heap.size w w' → wpList Tryd.prog ops Q rest (a.put o.dst (.pointer (some ⟨g, 0, none⟩))) w') : wpList Tryd.prog ops Q (o :: rest) a w :=
  wpList_plain hgd fun _ hK => wp_box_arr t x ho cs hx fun g w' h1 h2 h3 => hK _ _ (h g w' h1 h2 h3)
theorem wp_alloc_arr (t : TypeId) (ho : o.op = .alloc t) {cs : Array Value} (hz : ArrZ t cs)
    (h : ∀ g w', w.heap.size ≤ g → Blk w' g t cs → Below w.heap.size w w' → K (a.put o.dst (.pointer (some ⟨g, 0, none⟩))) w') : o.wp Tryd.prog a w K Q := by
  have hk := h w.heap.size (w.alloc (.cells cs t)) (Nat.le_refl _) (heap_alloc_new _ _) ((Below.refl _ _).alloc (Nat.le_refl _) _)
  unfold Oper.wp execOp
  simp only [ho, Sem.run_bind, Sem.run_pure, Result.andThen_ok, hz w]
  exact hk
theorem wpList_alloc_arr (hgd : o.guard = none) (t : TypeId) (ho : o.op = .alloc t) {cs : Array Value} (hz : ArrZ t cs)
    (h : ∀ g w', w.heap.size ≤ g → Blk w' g t cs → Below w.heap.size w w' → wpList Tryd.prog ops Q rest (a.put o.dst (.pointer (some ⟨g, 0, none⟩))) w') : wpList Tryd.prog ops Q (o :: rest) a w :=
  wpList_plain hgd fun _ hK => wp_alloc_arr t ho hz fun g w' h1 h2 h3 => hK _ _ (h g w' h1 h2 h3)
theorem wpList_box_val (hgd : o.guard = none) (t : TypeId) (x : Operand) (ho : o.op = .box t x) (v : Value) (hv : v.cells = #[v]) (hx : a.eval x = v)
    (h : ∀ g w', w.heap.size ≤ g → Blk w' g t #[v] → Below w.heap.size w w' → wpList Tryd.prog ops Q rest (a.put o.dst (.pointer (some ⟨g, 0, none⟩))) w') : wpList Tryd.prog ops Q (o :: rest) a w := by
  have hk := h w.heap.size (w.alloc (.cells #[v] t)) (Nat.le_refl _) (heap_alloc_new _ _) ((Below.refl _ _).alloc (Nat.le_refl _) _)
  have hr : (Instr.box t v).run Tryd.prog w = .ok (.pointer (some ⟨w.heap.size, 0, none⟩)) (w.alloc (.cells v.cells t)) := rfl
  rw [hv] at hr
  refine wpList_plain hgd fun _ hK => ?_
  unfold Oper.wp execOp
  simp only [ho, hx, Sem.run_bind, Sem.run_pure, Result.andThen_ok, hr]
  exact hK _ _ hk
end
section
variable {fn : Func} {p q r : Tmp} {t t2 : TypeId} {n : Nat}
theorem results_agg (hT : AggT t n) (h : fn.results = #[.cell p t]) (tmps : Array Value) (w : World) (g : Nat) (cs : Array Value) (hp : tmps.getD p undef = .pointer (some ⟨g, 0, none⟩)) (hg : Blk w g t2 cs) (hn : cs.size = n) :
    (results fn tmps).run Tryd.prog w = .ok (.agg cs) w := by
  have hp' : tmps[p]?.getD undef = .pointer (some ⟨g, 0, none⟩) := by simpa using hp
  simp [results, h, hp', asAddr, run_load_agg hT w g 0 cs hg.at hn]
theorem results_agg2 (hT : AggT t n) (h : fn.results = #[.cell p t, .tmp q]) (tmps : Array Value) (w : World) (g : Nat) (cs : Array Value) (v : Value) (hp : tmps.getD p undef = .pointer (some ⟨g, 0, none⟩)) (hq : tmps.getD q undef = v) (hg : Blk w g t2 cs) (hn : cs.size = n) :
    (results fn tmps).run Tryd.prog w = .ok (.tuple #[.agg cs, v]) w := by
  have hp' : tmps[p]?.getD undef = .pointer (some ⟨g, 0, none⟩) := by simpa using hp
  have hq' : tmps[q]?.getD undef = v := by simpa using hq
  simp [results, h, hp', hq', asAddr, run_load_agg hT w g 0 cs hg.at hn, Result.andThen]
theorem results_agg3 (hT : AggT t n) (h : fn.results = #[.cell p t, .tmp q, .tmp r]) (tmps : Array Value) (w : World) (g : Nat) (cs : Array Value) (v u : Value) (hp : tmps.getD p undef = .pointer (some ⟨g, 0, none⟩)) (hq : tmps.getD q undef = v) (hr : tmps.getD r undef = u) (hg : Blk w g t2 cs) (hn : cs.size = n) :
    (results fn tmps).run Tryd.prog w = .ok (.tuple #[.agg cs, v, u]) w := by
  have hp' : tmps[p]?.getD undef = .pointer (some ⟨g, 0, none⟩) := by simpa using hp
  have hq' : tmps[q]?.getD undef = v := by simpa using hq
  have hr' : tmps[r]?.getD undef = u := by simpa using hr
  simp [results, h, hp', hq', hr', asAddr, run_load_agg hT w g 0 cs hg.at hn, Result.andThen]
end
end Go.Proofs.YtfjjfickbhkpaaaDoor
