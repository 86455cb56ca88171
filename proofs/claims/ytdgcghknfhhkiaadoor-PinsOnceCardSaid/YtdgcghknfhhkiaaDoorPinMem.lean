/-
  Readers in memory: a row of them, one in a variable, one as a value; loads of 18 cells wherever they lie.
-/
import Derived.Test.YtdgcghknfhhkiaaDoorPinMath
import Derived.Test.YtdgcghknfhhkiaaDoorArr
import Derived.Test.YtdgcghknfhhkiaaDoorEls
import Derived.Test.YtdgcghknfhhkiaaDoorErrC
import Derived.Laws.ResultCell
namespace Go.Proofs.YtdgcghknfhhkiaaDoor
open Go Go.RowKit

abbrev PT : TypeId := 44
abbrev RPT : TypeId := 48
abbrev SPT : TypeId := 28
abbrev SRPT : TypeId := 23
abbrev PS : TypeId := 30
abbrev RPS : TypeId := 25
abbrev pnil : Value := .slice none 0 0
theorem pv_one (p : Pn) : (pv p).all (·.oneCell') = true := by
  unfold pv
  rw [Array.all_append, sc_one]
  simp [Value.oneCell']
def pinE : Elt Pn := ⟨18, 144, .agg (pv pn0), fun p => (pv p).toList, fun p => by rw [Array.length_toList, pv_size], fun p u hu => by
  have h := pv_one p
  rw [Array.all_eq_true_iff_forall_mem] at h
  exact h u (Array.mem_toList_iff.1 hu), by decide, pv_size pn0, fun _ => true⟩
theorem pinfo : (Tryd.prog.info? PT).map (fun i => (i.zero, i.size, i.bytes)) = some (some pinE.zero, pinE.sz, pinE.by_) := by kernel_rfl
theorem pinfoR : (Tryd.prog.info? RPT).map (fun i => (i.zero, i.size, i.bytes)) = some (some pinE.zero, pinE.sz, pinE.by_) := by kernel_rfl
/-- A struct or array type of so many cells. -/
def AggT (t : TypeId) (n : Nat) : Prop := (∃ d, Tryd.prog.underlying t = some d ∧ (match d with | .struct _ | .array _ _ => true | _ => false) = true) ∧ (Tryd.prog.info? t).map (·.size) = some n
theorem agg_PT : AggT PT 18 := ⟨⟨_, Tryd.underlying44, rfl⟩, by kernel_rfl⟩
theorem agg_RPT : AggT RPT 18 := ⟨⟨_, Tryd.underlying48, rfl⟩, by kernel_rfl⟩
theorem agg_TS : AggT TS 16 := ⟨⟨_, Tryd.underlying42, rfl⟩, by kernel_rfl⟩
theorem agg_TW : AggT TW 16 := ⟨⟨_, Tryd.underlying26, rfl⟩, by kernel_rfl⟩
theorem agg_PS : AggT PS 2 := ⟨⟨_, Tryd.underlying30, rfl⟩, by kernel_rfl⟩
theorem agg_RPS : AggT RPS 2 := ⟨⟨_, Tryd.underlying25, rfl⟩, by kernel_rfl⟩
theorem arrz_PT : ArrZ PT (pv pn0) := fun w => by kernel_rfl
theorem arrz_RPT : ArrZ RPT (pv pn0) := fun w => by kernel_rfl
theorem arrz_PS : ArrZ PS #[.int .u64 0, pnil] := fun w => by kernel_rfl
theorem arrz_RPS : ArrZ RPS #[.int .u64 0, pnil] := fun w => by kernel_rfl
/-- Cells at a place. -/
def At (w : World) (g o : Nat) (cs : Array Value) : Prop := ∀ (j : Nat) (u : Value), cs[j]? = some u → w.cell? ⟨g, o + j, none⟩ = some u
theorem Blk.at {w : World} {b : Nat} {t : TypeId} {cs : Array Value} (h : Blk w b t cs) : At w b 0 cs := fun j u hu => by rw [Nat.zero_add, h.cell]; exact hu
theorem At.lt {w : World} {g o : Nat} {cs : Array Value} (h : At w g o cs) (h0 : 0 < cs.size) : g < w.heap.size :=
  block_lt_of_cell (a := ⟨g, o + 0, none⟩) (h 0 _ (Array.getElem?_eq_getElem h0))
theorem At.below {w w' : World} {g o B : Nat} {cs : Array Value} (h : At w g o cs) (hb : Below B w w') (hB : w.heap.size ≤ B) : At w' g o cs := fun j u hu => by
  have := h j u hu
  rw [hb.cell (p := ⟨g, o + j, none⟩) (Nat.lt_of_lt_of_le (block_lt_of_cell this) hB)]; exact this
theorem At.ext {w w' : World} {g o : Nat} {cs : Array Value} (h : At w g o cs) (hb : Ext w w') : At w' g o cs := h.below hb (Nat.le_refl _)
/-- A reader's pages lie behind its two numbers. -/
theorem At.pages {w : World} {g o : Nat} {p : Pn} (h : At w g o (pv p)) : At w g (o + 2) (sc p.pg) := fun j u hu => by
  have hj : j < 16 := by have := (Array.getElem?_eq_some_iff.1 hu).1; rwa [sc_size] at this
  have := h (2 + j) u (by rw [pv_w p j hj, ← sc_get p.pg j hj]; exact hu)
  rw [Nat.add_assoc]; exact this
theorem At.id {w : World} {g o : Nat} {p : Pn} (h : At w g o (pv p)) : w.cell? ⟨g, o, none⟩ = some (.int .u64 (p.id : Nat)) := h 0 _ (pv_0 p)
theorem At.sq {w : World} {g o : Nat} {p : Pn} (h : At w g o (pv p)) : w.cell? ⟨g, o + 1, none⟩ = some (.int .u64 (p.sq : Nat)) := h 1 _ (pv_1 p)
theorem run_load_agg {t : TypeId} {n : Nat} (hT : AggT t n) (w : World) (g o : Nat) (cs : Array Value) (hc : At w g o cs) (hn : cs.size = n) : (loadVar t ⟨g, o, none⟩).run Tryd.prog w = .ok (.agg cs) w := by
  obtain ⟨⟨d, hu, hd⟩, hi⟩ := hT
  have hl : (loadCells ⟨g, o, none⟩ cs.toList.length).run Tryd.prog w = .ok cs.toList.toArray w :=
    run_loadCells_list (P := Tryd.prog) w ⟨g, o, none⟩ cs.toList (fun j v hv => by
      rw [addr_add]
      exact hc j v (by simpa using hv))
  cases hq : Tryd.prog.info? t with
  | none => simp [hq] at hi
  | some i =>
    have hs : i.size = cs.size := by rw [hn]; simpa [hq] using hi
    have hagg : (isAgg t).run Tryd.prog w = .ok true w := by
      unfold isAgg
      rw [Sem.run_bind, run_underlying hu w]
      cases d <;> simp_all
    simp only [Array.length_toList, Array.toArray_toList] at hl
    simp [loadVar, Sem.run_bind, hagg, sizeOf, typeInfo, hq, hs, hl]
section
variable {ops : Array Oper} {rest : List Oper} {o : Oper} {a : Act} {w : World} {K : Act → World → Prop} {Q : Exit → Act → World → Prop}
theorem rd_load_agg (t : TypeId) (x : Operand) (ho : o.op = .load t x) (g q : Nat) (cs : Array Value) (hx : a.eval x = .pointer (some ⟨g, q, none⟩)) {n : Nat} (hT : AggT t n) (hc : At w g q cs) (hn : cs.size = n) :
    (execOp a.eval o).run Tryd.prog w = .ok (.value (.agg cs)) w := by
  unfold execOp
  simp only [ho, hx, Instr.loadAt, Instr.sureAddr, Sem.run_bind, Sem.run_pure, Result.andThen_ok, run_load_agg hT w g q cs hc hn]
theorem wp_load_agg (t : TypeId) (x : Operand) (ho : o.op = .load t x) (g q : Nat) (cs : Array Value) (hx : a.eval x = .pointer (some ⟨g, q, none⟩)) {n : Nat} (hT : AggT t n) (hc : At w g q cs) (hn : cs.size = n)
    (h : K (a.put o.dst (.agg cs)) w) : o.wp Tryd.prog a w K Q := by
  unfold Oper.wp
  rw [rd_load_agg t x ho g q cs hx hT hc hn]
  exact h
theorem wpList_load_agg (hgd : o.guard = none) (t : TypeId) (x : Operand) (ho : o.op = .load t x) (g q : Nat) (cs : Array Value) (hx : a.eval x = .pointer (some ⟨g, q, none⟩)) {n : Nat} (hT : AggT t n) (hc : At w g q cs) (hn : cs.size = n)
    (h : wpList Tryd.prog ops Q rest (a.put o.dst (.agg cs)) w) : wpList Tryd.prog ops Q (o :: rest) a w :=
  wpList_plain hgd fun _ hK => wp_load_agg t x ho g q cs hx hT hc hn (hK _ _ h)
theorem wpList_load_agg_when (hw : Region.wanted o (yielded ops a.tmps) = true) (t : TypeId) (x : Operand) (ho : o.op = .load t x) (g q : Nat) (cs : Array Value) (hx : a.eval x = .pointer (some ⟨g, q, none⟩)) {n : Nat} (hT : AggT t n) (hc : At w g q cs) (hn : cs.size = n)
    (h : wpList Tryd.prog ops Q rest (a.put o.dst (.agg cs)) w) : wpList Tryd.prog ops Q (o :: rest) a w :=
  wpList_step fun K hK => by rw [if_pos hw]; exact wp_load_agg t x ho g q cs hx hT hc hn (hK _ _ h)
theorem wp_store_agg (t : TypeId) (x y : Operand) (ho : o.op = .store t x y) (g : Nat) (cs old : Array Value) (t2 : TypeId) (hx : a.eval x = .pointer (some ⟨g, 0, none⟩)) (hy : a.eval y = .agg cs) {n : Nat} (hT : AggT t n) (hg : Blk w g t2 old) (hn : cs.size = n) (hold : old.size = n) (h1 : cs.all (·.oneCell') = true)
    (h : ∀ w', Blk w' g t2 cs → Turn (fun i => i = g) w w' → w'.heap.size = w.heap.size → K (a.put o.dst undef) w') : o.wp Tryd.prog a w K Q := by
  have hk := h (w.setRow g cs) (setRow_heap w g _ _ _ _ hg) ⟨rfl, rfl, rfl, by simp, fun i _ hne => setRow_other w g i _ hne⟩ (by simp)
  exact wp_store_row t x y ho g cs hx hy t2 _ hg (by rw [hT.2, hn]) (by rw [hn, hold]) h1 hk
theorem wpList_store_agg (hgd : o.guard = none) (t : TypeId) (x y : Operand) (ho : o.op = .store t x y) (g : Nat) (cs old : Array Value) (t2 : TypeId) (hx : a.eval x = .pointer (some ⟨g, 0, none⟩)) (hy : a.eval y = .agg cs) {n : Nat} (hT : AggT t n) (hg : Blk w g t2 old) (hn : cs.size = n) (hold : old.size = n) (h1 : cs.all (·.oneCell') = true)
    (h : ∀ w', Blk w' g t2 cs → Turn (fun i => i = g) w w' → w'.heap.size = w.heap.size → wpList Tryd.prog ops Q rest (a.put o.dst undef) w') : wpList Tryd.prog ops Q (o :: rest) a w :=
  wpList_plain hgd fun _ hK => wp_store_agg t x y ho g cs old t2 hx hy hT hg hn hold h1 fun w' h1 h2 h3 => hK _ _ (h w' h1 h2 h3)
end
theorem build_pin (i s : Nat) (f : Nat → Bool) (w : World) : (Instr.build PT #[(0, .int .u64 i), (1, .int .u64 s), (2, .agg (sc f))]).run Tryd.prog w = .ok (.agg (pv ⟨i, s, f⟩)) w := by kernel_rfl
theorem build_rpin (i s : Nat) (f : Nat → Bool) (w : World) : (Instr.build RPT #[(0, .int .u64 i), (1, .int .u64 s), (2, .agg (sc f))]).run Tryd.prog w = .ok (.agg (pv ⟨i, s, f⟩)) w := by kernel_rfl
theorem build_pin0 (w : World) : (Instr.build PT #[]).run Tryd.prog w = .ok (.agg (pv pn0)) w := by kernel_rfl
theorem build_rpin0 (w : World) : (Instr.build RPT #[]).run Tryd.prog w = .ok (.agg (pv pn0)) w := by kernel_rfl
theorem slice_pin (i s : Nat) (f : Nat → Bool) (w : World) : (Instr.buildSlice SPT 1 #[(0, .agg (pv ⟨i, s, f⟩))]).run Tryd.prog w = .ok (.slice (some ⟨w.heap.size, 0, none⟩) 1 1) (w.alloc (.cells (pv ⟨i, s, f⟩) PT)) := by kernel_rfl
theorem slice_rpin (i s : Nat) (f : Nat → Bool) (w : World) : (Instr.buildSlice SRPT 1 #[(0, .agg (pv ⟨i, s, f⟩))]).run Tryd.prog w = .ok (.slice (some ⟨w.heap.size, 0, none⟩) 1 1) (w.alloc (.cells (pv ⟨i, s, f⟩) RPT)) := by kernel_rfl
end Go.Proofs.YtdgcghknfhhkiaaDoor
