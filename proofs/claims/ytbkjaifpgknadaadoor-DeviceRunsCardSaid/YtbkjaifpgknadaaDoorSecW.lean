/-
  A sector as a variable: laid, stored, loaded; in a walk, and in a region that draws its order.
-/
import Derived.Test.YtbkjaifpgknadaaDoorSec
import Derived.Test.YtbkjaifpgknadaaDoorGr
import Derived.Laws.Rows
import Derived.WalkKit
namespace Go.Proofs.YtbkjaifpgknadaaDoor
open Go Go.RowKit Go.Maps

theorem info_sec : (Tryd.prog.info? ST).map (·.size) = some 64 := by kernel_rfl
theorem under_sec : Tryd.prog.underlying ST = some (.array 64 5) := Tryd.underlying70
theorem run_alloc_sec (w : World) : (Instr.alloc ST true (.tuple #[])).run Tryd.prog w = .ok (.pointer (some ⟨w.heap.size, 0, none⟩)) (w.alloc (.cells (bv zeros).toArray ST)) := by kernel_rfl
theorem bv_size (l : List Nat) : (bv l).toArray.size = l.length := by simp [bv]
theorem bv_all (l : List Nat) : (bv l).toArray.all (·.oneCell') = true := by
  rw [Array.all_eq_true_iff_forall_mem]; intro u hu; exact bv_one l u (by simpa using hu)
/-! ### a place as a variable -/
def pcs (n : Nat) : Array Value := #[.int .i64 ((n / 8 : Nat) : Int), .int .i64 ((n % 8 : Nat) : Int)]
def PRow (w : World) (g n : Nat) : Prop := w.heap[g]? = some (.cells (pcs n) PT (0, 0))
theorem plc_pcs (n : Nat) : plc n = .agg (pcs n) := rfl
theorem info_place : (Tryd.prog.info? PT).map (·.size) = some 2 := by kernel_rfl
theorem pcs_size (n : Nat) : (pcs n).size = 2 := rfl
theorem pcs_one (n : Nat) : (pcs n).all (·.oneCell') = true := by simp [pcs, Value.oneCell']
theorem run_box_place (w : World) (n : Nat) : (Instr.box PT (plc n)).run Tryd.prog w = .ok (.pointer (some ⟨w.heap.size, 0, none⟩)) (w.alloc (.cells (pcs n) PT)) := by rfl
theorem run_alloc_place (w : World) : (Instr.alloc PT true (.tuple #[])).run Tryd.prog w = .ok (.pointer (some ⟨w.heap.size, 0, none⟩)) (w.alloc (.cells #[.int .i64 0, .int .i64 0] PT)) := by kernel_rfl
theorem under_place : Tryd.prog.underlying PT = some (.struct (Tryd.prog.fieldsOf PT)) := by
  unfold Program.fieldsOf; rw [Tryd.underlying66]
theorem run_load_place (w : World) (g n : Nat) (hg : PRow w g n) : (loadVar PT ⟨g, 0, none⟩).run Tryd.prog w = .ok (plc n) w :=
  run_loadVar_row w g PT PT (pcs n) _ _ hg under_place rfl (by rw [info_place, pcs_size])
theorem PRow.below {w w' : World} {g n B : Nat} (h : PRow w g n) (hb : Below B w w') (hg : g < B) : PRow w' g n := (hb.block g hg).trans h
theorem PRow.lt {w : World} {g n : Nat} (h : PRow w g n) : g < w.heap.size := (Array.getElem?_eq_some_iff.1 h).1
theorem PRow.ext {w w' : World} {g n : Nat} (h : PRow w g n) (hb : Ext w w') : PRow w' g n := h.below hb h.lt
theorem Row.ext {w w' : World} {g E : Nat} {l : List Nat} (h : Row w g E l) (hb : Ext w w') : Row w' g E l := Row.below h hb h.lt
theorem PRow.c0 {w : World} {g n : Nat} (h : PRow w g n) : w.cell? ⟨g, 0, none⟩ = some (.int .i64 ((n / 8 : Nat) : Int)) := cell_of_row w g 0 _ _ _ h
theorem PRow.c1 {w : World} {g n : Nat} (h : PRow w g n) : w.cell? ⟨g, 1, none⟩ = some (.int .i64 ((n % 8 : Nat) : Int)) := cell_of_row w g 1 _ _ _ h
theorem run_load_sec (w : World) (g : Nat) (l : List Nat) (hg : Row w g ST l) (hl : l.length = 64) : (loadVar ST ⟨g, 0, none⟩).run Tryd.prog w = .ok (sec l) w :=
  run_loadVar_row w g ST ST _ _ _ hg under_sec rfl (by rw [info_sec, bv_size, hl])
section
variable {ops : Array Oper} {rest : List Oper} {o : Oper} {a : Act} {w : World} {K : Act → World → Prop} {Q : Exit → Act → World → Prop}
/-- A reading in a region that draws its order. -/
theorem rd_load_sec (x : Operand) (ho : o.op = .load ST x) (g : Nat) (l : List Nat) (hx : a.eval x = .pointer (some ⟨g, 0, none⟩)) (hg : Row w g ST l) (hl : l.length = 64) : (execOp a.eval o).run Tryd.prog w = .ok (.value (sec l)) w := by
  unfold execOp
  simp only [ho, hx, Instr.loadAt, Instr.sureAddr, Sem.run_bind, Sem.run_pure, Result.andThen_ok, run_load_sec w g l hg hl]
theorem rd_load_place (x : Operand) (ho : o.op = .load PT x) (g n : Nat) (hx : a.eval x = .pointer (some ⟨g, 0, none⟩)) (hg : PRow w g n) : (execOp a.eval o).run Tryd.prog w = .ok (.value (plc n)) w := by
  unfold execOp
  simp only [ho, hx, Instr.loadAt, Instr.sureAddr, Sem.run_bind, Sem.run_pure, Result.andThen_ok, run_load_place w g n hg]
theorem rd_look (m x : Operand) (ho : o.op = .lookup MT m x false) (b M : Nat) (g : Secs) (n : Nat) (hm : a.eval m = .map (some b)) (hx : a.eval x = plc n) (h : OM w b M g) (hn : n < M) : (execOp a.eval o).run Tryd.prog w = .ok (.value (sec ((g n).getD zeros))) w := by
  unfold execOp
  simp only [ho, hm, hx, Sem.run_bind, Sem.run_pure, Result.andThen_ok, h.look n hn]
theorem rd_look_ok (m x : Operand) (ho : o.op = .lookup MT m x true) (b M : Nat) (g : Secs) (n : Nat) (hm : a.eval m = .map (some b)) (hx : a.eval x = plc n) (h : OM w b M g) (hn : n < M) : (execOp a.eval o).run Tryd.prog w = .ok (.value (.tuple #[sec ((g n).getD zeros), .bool (g n).isSome])) w := by
  unfold execOp
  simp only [ho, hm, hx, Sem.run_bind, Sem.run_pure, Result.andThen_ok, h.look_ok n hn]
theorem wp_box_place (x : Operand) (ho : o.op = .box PT x) (n : Nat) (hx : a.eval x = plc n)
    (h : ∀ g w', w.heap.size ≤ g → PRow w' g n → Below w.heap.size w w' → K (a.put o.dst (.pointer (some ⟨g, 0, none⟩))) w') : o.wp Tryd.prog a w K Q := by
  have hk := h w.heap.size (w.alloc (.cells (pcs n) PT)) (Nat.le_refl _) (heap_alloc_new _ _) ((Below.refl _ _).alloc (Nat.le_refl _) _)
  unfold Oper.wp execOp
  simp only [ho, hx, Sem.run_bind, Sem.run_pure, Result.andThen_ok, run_box_place]
  exact hk
theorem wpList_box_place (hgd : o.guard = none) (x : Operand) (ho : o.op = .box PT x) (n : Nat) (hx : a.eval x = plc n)
    (h : ∀ g w', w.heap.size ≤ g → PRow w' g n → Below w.heap.size w w' → wpList Tryd.prog ops Q rest (a.put o.dst (.pointer (some ⟨g, 0, none⟩))) w') : wpList Tryd.prog ops Q (o :: rest) a w :=
  wpList_plain hgd fun _ hK => wp_box_place x ho n hx fun g w' h1 h2 h3 => hK _ _ (h g w' h1 h2 h3)
theorem wp_alloc_place (ho : o.op = .alloc PT)
    (h : ∀ g w', w.heap.size ≤ g → PRow w' g 0 → Below w.heap.size w w' → K (a.put o.dst (.pointer (some ⟨g, 0, none⟩))) w') : o.wp Tryd.prog a w K Q := by
  have hk := h w.heap.size (w.alloc (.cells #[.int .i64 0, .int .i64 0] PT)) (Nat.le_refl _) (heap_alloc_new _ _) ((Below.refl _ _).alloc (Nat.le_refl _) _)
  unfold Oper.wp execOp
  simp only [ho, Sem.run_bind, Sem.run_pure, Result.andThen_ok, run_alloc_place]
  exact hk
theorem wpList_alloc_place (hgd : o.guard = none) (ho : o.op = .alloc PT)
    (h : ∀ g w', w.heap.size ≤ g → PRow w' g 0 → Below w.heap.size w w' → wpList Tryd.prog ops Q rest (a.put o.dst (.pointer (some ⟨g, 0, none⟩))) w') : wpList Tryd.prog ops Q (o :: rest) a w :=
  wpList_plain hgd fun _ hK => wp_alloc_place ho fun g w' h1 h2 h3 => hK _ _ (h g w' h1 h2 h3)
theorem wp_store_place (x y : Operand) (ho : o.op = .store PT x y) (g n m : Nat) (hx : a.eval x = .pointer (some ⟨g, 0, none⟩)) (hy : a.eval y = plc n) (hg : PRow w g m)
    (h : ∀ w', PRow w' g n → Turn (fun i => i = g) w w' → w'.heap.size = w.heap.size → K (a.put o.dst undef) w') : o.wp Tryd.prog a w K Q := by
  have hk := h (w.setRow g (pcs n)) (setRow_heap w g _ _ _ _ hg) ⟨rfl, rfl, rfl, by simp, fun i _ hne => setRow_other w g i _ hne⟩ (by simp)
  exact wp_store_row PT x y ho g (pcs n) hx hy PT _ hg (by rw [info_place, pcs_size]) (by rw [pcs_size, pcs_size]) (pcs_one n) hk
theorem wpList_store_place (hgd : o.guard = none) (x y : Operand) (ho : o.op = .store PT x y) (g n m : Nat) (hx : a.eval x = .pointer (some ⟨g, 0, none⟩)) (hy : a.eval y = plc n) (hg : PRow w g m)
    (h : ∀ w', PRow w' g n → Turn (fun i => i = g) w w' → w'.heap.size = w.heap.size → wpList Tryd.prog ops Q rest (a.put o.dst undef) w') : wpList Tryd.prog ops Q (o :: rest) a w :=
  wpList_plain hgd fun _ hK => wp_store_place x y ho g n m hx hy hg fun w' h1 h2 h3 => hK _ _ (h w' h1 h2 h3)
theorem wpList_load_place (hgd : o.guard = none) (x : Operand) (ho : o.op = .load PT x) (g n : Nat) (hx : a.eval x = .pointer (some ⟨g, 0, none⟩)) (hg : PRow w g n)
    (h : wpList Tryd.prog ops Q rest (a.put o.dst (plc n)) w) : wpList Tryd.prog ops Q (o :: rest) a w :=
  wpList_load_row hgd PT x ho g hx PT (pcs n) _ _ hg under_place rfl (by rw [info_place, pcs_size]) h
theorem wp_box_sec (x : Operand) (ho : o.op = .box ST x) (l : List Nat) (hx : a.eval x = sec l)
    (h : ∀ g w', w.heap.size ≤ g → Row w' g ST l → Below w.heap.size w w' → K (a.put o.dst (.pointer (some ⟨g, 0, none⟩))) w') : o.wp Tryd.prog a w K Q := by
  have hk := h w.heap.size (w.alloc (.cells (bv l).toArray ST)) (Nat.le_refl _) (heap_alloc_new _ _) ((Below.refl _ _).alloc (Nat.le_refl _) _)
  have hr : (Instr.box ST (sec l)).run Tryd.prog w = .ok (.pointer (some ⟨w.heap.size, 0, none⟩)) (w.alloc (.cells (bv l).toArray ST)) := rfl
  unfold Oper.wp execOp
  simp only [ho, hx, Sem.run_bind, Sem.run_pure, Result.andThen_ok, hr]
  exact hk
theorem wpList_box_sec (hgd : o.guard = none) (x : Operand) (ho : o.op = .box ST x) (l : List Nat) (hx : a.eval x = sec l)
    (h : ∀ g w', w.heap.size ≤ g → Row w' g ST l → Below w.heap.size w w' → wpList Tryd.prog ops Q rest (a.put o.dst (.pointer (some ⟨g, 0, none⟩))) w') : wpList Tryd.prog ops Q (o :: rest) a w :=
  wpList_plain hgd fun _ hK => wp_box_sec x ho l hx fun g w' h1 h2 h3 => hK _ _ (h g w' h1 h2 h3)
/-- A law on one operation that writes a map. -/
theorem wp_put (m x v : Operand) (ho : o.op = .mapUpdate MT m x v) (b M : Nat) (g : Secs) (n : Nat) (l : List Nat) (hm : a.eval m = .map (some b)) (hx : a.eval x = plc n) (hv : a.eval v = sec l) (hb : OM w b M g) (hn : n < M) (hl : l.length = 64) (h8 : B8 l)
    (h : ∀ w', OM w' b M (upd g n (some l)) → w.grownBy w' (some b) → K (a.put o.dst undef) w') : o.wp Tryd.prog a w K Q := by
  obtain ⟨w', hr, h1, h2⟩ := hb.put n hn l hl h8
  have hk := h w' h1 h2
  unfold Oper.wp execOp
  simp only [ho, hm, hx, hv, Sem.run_bind, Sem.run_pure, Result.andThen_ok, hr]
  exact hk
theorem wp_del (m x : Operand) (ho : o.op = Op.call { callee := Callee.builtin Builtin.delete, args := #[m, x], argTypes := #[MT, PT] }) (b M : Nat) (g : Secs) (n : Nat) (hm : a.eval m = .map (some b)) (hx : a.eval x = plc n) (hb : OM w b M g) (hn : n < M)
    (h : ∀ w', OM w' b M (upd g n none) → w.grownBy w' (some b) → K (a.put o.dst (.tuple #[])) w') : o.wp Tryd.prog a w K Q := by
  obtain ⟨w', hr, h1, h2⟩ := hb.del n hn o.type
  have hk := h w' h1 h2
  unfold Oper.wp
  simp [execOp, ho, resolve, invoke, builtin, hm, hx, hr, Result.andThen]
  exact hk
theorem wpList_clear (hgd : o.guard = none) (m : Operand) (ho : o.op = Op.call { callee := Callee.builtin Builtin.clear, args := #[m], argTypes := #[MT] }) (b M : Nat) (g : Secs) (hm : a.eval m = .map (some b)) (hb : OM w b M g)
    (h : ∀ w', OM w' b M (fun _ => none) → w.grownBy w' (some b) → wpList Tryd.prog ops Q rest (a.put o.dst (.tuple #[])) w') : wpList Tryd.prog ops Q (o :: rest) a w := by
  refine wpList_plain hgd fun K hK => ?_
  obtain ⟨w', hr, h1, h2⟩ := hb.clear o.type
  have hk := hK _ _ (h w' h1 h2)
  unfold Oper.wp
  simp [execOp, ho, resolve, invoke, builtin, hm, hr, Result.andThen]
  exact hk
theorem wp_alloc_sec (ho : o.op = .alloc ST)
    (h : ∀ g w', w.heap.size ≤ g → Row w' g ST zeros → Below w.heap.size w w' → K (a.put o.dst (.pointer (some ⟨g, 0, none⟩))) w') : o.wp Tryd.prog a w K Q := by
  have hk := h w.heap.size (w.alloc (.cells (bv zeros).toArray ST)) (Nat.le_refl _) (heap_alloc_new _ _) ((Below.refl _ _).alloc (Nat.le_refl _) _)
  unfold Oper.wp execOp
  simp only [ho, Sem.run_bind, Sem.run_pure, Result.andThen_ok, run_alloc_sec]
  exact hk
theorem wpList_alloc_sec (hgd : o.guard = none) (ho : o.op = .alloc ST)
    (h : ∀ g w', w.heap.size ≤ g → Row w' g ST zeros → Below w.heap.size w w' → wpList Tryd.prog ops Q rest (a.put o.dst (.pointer (some ⟨g, 0, none⟩))) w') : wpList Tryd.prog ops Q (o :: rest) a w :=
  wpList_plain hgd fun _ hK => wp_alloc_sec ho fun g w' h1 h2 h3 => hK _ _ (h g w' h1 h2 h3)
theorem wp_store_sec (x y : Operand) (ho : o.op = .store ST x y) (g : Nat) (l old : List Nat) (hx : a.eval x = .pointer (some ⟨g, 0, none⟩)) (hy : a.eval y = sec l) (hg : Row w g ST old) (hl : l.length = 64) (hold : old.length = 64)
    (h : ∀ w', Row w' g ST l → Turn (fun i => i = g) w w' → w'.heap.size = w.heap.size → K (a.put o.dst undef) w') : o.wp Tryd.prog a w K Q := by
  have hk := h (w.setRow g (bv l).toArray) (setRow_heap w g _ _ _ _ hg) ⟨rfl, rfl, rfl, by simp, fun i _ hne => setRow_other w g i _ hne⟩ (by simp)
  exact wp_store_row ST x y ho g (bv l).toArray hx hy ST _ hg (by rw [info_sec, bv_size, hl]) (by rw [bv_size, bv_size, hl, hold]) (bv_all l) hk
theorem wpList_store_sec (hgd : o.guard = none) (x y : Operand) (ho : o.op = .store ST x y) (g : Nat) (l old : List Nat) (hx : a.eval x = .pointer (some ⟨g, 0, none⟩)) (hy : a.eval y = sec l) (hg : Row w g ST old) (hl : l.length = 64) (hold : old.length = 64)
    (h : ∀ w', Row w' g ST l → Turn (fun i => i = g) w w' → w'.heap.size = w.heap.size → wpList Tryd.prog ops Q rest (a.put o.dst undef) w') : wpList Tryd.prog ops Q (o :: rest) a w :=
  wpList_plain hgd fun _ hK => wp_store_sec x y ho g l old hx hy hg hl hold fun w' h1 h2 h3 => hK _ _ (h w' h1 h2 h3)
theorem wpList_load_sec (hgd : o.guard = none) (x : Operand) (ho : o.op = .load ST x) (g : Nat) (l : List Nat) (hx : a.eval x = .pointer (some ⟨g, 0, none⟩)) (hg : Row w g ST l) (hl : l.length = 64)
    (h : wpList Tryd.prog ops Q rest (a.put o.dst (sec l)) w) : wpList Tryd.prog ops Q (o :: rest) a w :=
  wpList_load_row hgd ST x ho g hx ST _ _ _ hg under_sec rfl (by rw [info_sec, bv_size, hl]) h
theorem results_sec {fn : Func} {p : Tmp} (h : fn.results = #[.cell p ST]) (tmps : Array Value) (w : World) (g : Nat) (l : List Nat) (hp : tmps.getD p undef = .pointer (some ⟨g, 0, none⟩)) (hg : Row w g ST l) (hl : l.length = 64) :
    (results fn tmps).run Tryd.prog w = .ok (sec l) w :=
  results_cell_row h tmps w g ST _ _ _ hp hg under_sec rfl (by rw [info_sec, bv_size, hl])
end
end Go.Proofs.YtbkjaifpgknadaaDoor
