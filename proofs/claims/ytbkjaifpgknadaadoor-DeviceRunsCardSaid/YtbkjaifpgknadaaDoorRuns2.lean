/-
  DeviceRuns: what is done, as a list; the variables that hold it.
-/
import Derived.Test.YtbkjaifpgknadaaDoorRuns1
namespace Go.Proofs.YtbkjaifpgknadaaDoor
open Go Go.RowKit Go.Maps Go.Sort

abbrev AC : TypeId := 47
/-- One thing done, as the argument holds it. -/
structure ActD where
  kind : Int
  n : Int
  ba : Option Addr
  bl : List Nat
  bc : Nat
  ka : Option Addr
  kl : List Bool
  kc : Nat
def acs (x : ActD) : Array Value := #[.int .i64 x.kind, .int .i64 x.n, .slice x.ba x.bl.length x.bc, .slice x.ka x.kl.length x.kc]
structure AOk (w : World) (x : ActD) : Prop where
  n1 : -9223372036854775808 ≤ x.n
  n2 : x.n ≤ 9223372036854775807
  bs : Src w x.ba x.bl
  b8 : B8 x.bl
  bc : x.bl.length ≤ x.bc
  bm : x.bc ≤ maxLen
  ks : BSrc w x.ka x.kl
/-- A slice that reads as a list of things done. -/
def ASrc (w : World) (a : Option Addr) (l : List ActD) : Prop := 0 < l.length → ∃ b o, a = some ⟨b, o, none⟩ ∧ ∀ i x, l[i]? = some x → AOk w x ∧ ∀ j v, (acs x)[j]? = some v → w.cell? ⟨b, o + i * 4 + j, none⟩ = some v
theorem info_ac : (Tryd.prog.info? AC).map (·.size) = some 4 := by kernel_rfl
theorem info_rt : (Tryd.prog.info? RT).map (·.size) = some 6 := by kernel_rfl
def acz : Array Value := #[.int .i64 0, .int .i64 0, .slice none 0 0, .slice none 0 0]
def rtz : Array Value := #[.int .i64 0, .slice none 0 0, .slice none 0 0, .slice none 0 0, .int .i64 0, .bool false]
theorem run_alloc_ac (w : World) : (Instr.alloc AC true (.tuple #[])).run Tryd.prog w = .ok (.pointer (some ⟨w.heap.size, 0, none⟩)) (w.alloc (.cells acz AC)) := by kernel_rfl
theorem run_alloc_rt (w : World) : (Instr.alloc RT true (.tuple #[])).run Tryd.prog w = .ok (.pointer (some ⟨w.heap.size, 0, none⟩)) (w.alloc (.cells rtz RT)) := by kernel_rfl
theorem rtz_one : rtz.all (·.oneCell') = true := by simp [rtz, Value.oneCell']
theorem acs_one (x : ActD) : (acs x).all (·.oneCell') = true := by simp [acs, Value.oneCell']
theorem rcs_one (ps pn pw : Nat) (S : DS) : (rcs ps pn pw S).all (·.oneCell') = true := by simp [rcs, Value.oneCell']
section
variable {ops : Array Oper} {rest : List Oper} {o : Oper} {a : Act} {w : World} {K : Act → World → Prop} {Q : Exit → Act → World → Prop}
theorem wpList_alloc_ac (hgd : o.guard = none) (ho : o.op = .alloc AC)
    (h : ∀ g w', w.heap.size ≤ g → w'.heap[g]? = some (.cells acz AC (0, 0)) → Below w.heap.size w w' → wpList Tryd.prog ops Q rest (a.put o.dst (.pointer (some ⟨g, 0, none⟩))) w') : wpList Tryd.prog ops Q (o :: rest) a w := by
  refine wpList_plain hgd fun K hK => ?_
  have hk := hK _ _ (h w.heap.size (w.alloc (.cells acz AC)) (Nat.le_refl _) (heap_alloc_new _ _) ((Below.refl _ _).alloc (Nat.le_refl _) _))
  unfold Oper.wp execOp
  simp only [ho, Sem.run_bind, Sem.run_pure, Result.andThen_ok, run_alloc_ac]
  exact hk
theorem wpList_alloc_rt (hgd : o.guard = none) (ho : o.op = .alloc RT)
    (h : ∀ g w', w.heap.size ≤ g → w'.heap[g]? = some (.cells rtz RT (0, 0)) → Below w.heap.size w w' → wpList Tryd.prog ops Q rest (a.put o.dst (.pointer (some ⟨g, 0, none⟩))) w') : wpList Tryd.prog ops Q (o :: rest) a w := by
  refine wpList_plain hgd fun K hK => ?_
  have hk := hK _ _ (h w.heap.size (w.alloc (.cells rtz RT)) (Nat.le_refl _) (heap_alloc_new _ _) ((Below.refl _ _).alloc (Nat.le_refl _) _))
  unfold Oper.wp execOp
  simp only [ho, Sem.run_bind, Sem.run_pure, Result.andThen_ok, run_alloc_rt]
  exact hk
theorem wpList_store_struct (t : TypeId) (hgd : o.guard = none) (x y : Operand) (ho : o.op = .store t x y) (g : Nat) (cs old : Array Value) (hx : a.eval x = .pointer (some ⟨g, 0, none⟩)) (hy : a.eval y = .agg cs) (hg : w.heap[g]? = some (.cells old t (0, 0)))
    (hi : (Tryd.prog.info? t).map (·.size) = some cs.size) (hs : old.size = cs.size) (hc : cs.all (·.oneCell') = true)
    (h : ∀ w', w'.heap[g]? = some (.cells cs t (0, 0)) → Turn (fun i => i = g) w w' → wpList Tryd.prog ops Q rest (a.put o.dst undef) w') : wpList Tryd.prog ops Q (o :: rest) a w := by
  refine wpList_plain hgd fun K hK => ?_
  have hk := hK _ _ (h (w.setRow g cs) (setRow_heap w g _ _ _ _ hg) ⟨rfl, rfl, rfl, by simp, fun i _ hne => setRow_other w g i _ hne⟩)
  exact wp_store_row t x y ho g cs hx hy t _ hg hi (by rw [hs]) hc hk
theorem rd_load_rt (x : Operand) (ho : o.op = .load RT x) (g : Nat) (cs : Array Value) (hx : a.eval x = .pointer (some ⟨g, 0, none⟩)) (hg : w.heap[g]? = some (.cells cs RT (0, 0))) (hs : cs.size = 6) : (execOp a.eval o).run Tryd.prog w = .ok (.value (.agg cs)) w := by
  unfold execOp
  simp only [ho, hx, Instr.loadAt, Instr.sureAddr, Sem.run_bind, Sem.run_pure, Result.andThen_ok, run_loadVar_row w g RT RT cs (0, 0) _ hg Tryd.underlying43 rfl (by rw [info_rt, hs])]
end
theorem ack0 {w : World} {g : Nat} {x : ActD} (h : w.heap[g]? = some (.cells (acs x) AC (0, 0))) : w.cell? ⟨g, 0, none⟩ = some (.int .i64 x.kind) := (cell_of_row w g 0 _ _ _ h).trans (by simp [acs])
theorem ack1 {w : World} {g : Nat} {x : ActD} (h : w.heap[g]? = some (.cells (acs x) AC (0, 0))) : w.cell? ⟨g, 1, none⟩ = some (.int .i64 x.n) := (cell_of_row w g 1 _ _ _ h).trans (by simp [acs])
theorem ack2 {w : World} {g : Nat} {x : ActD} (h : w.heap[g]? = some (.cells (acs x) AC (0, 0))) : w.cell? ⟨g, 2, none⟩ = some (.slice x.ba x.bl.length x.bc) := (cell_of_row w g 2 _ _ _ h).trans (by simp [acs])
theorem ack3 {w : World} {g : Nat} {x : ActD} (h : w.heap[g]? = some (.cells (acs x) AC (0, 0))) : w.cell? ⟨g, 3, none⟩ = some (.slice x.ka x.kl.length x.kc) := (cell_of_row w g 3 _ _ _ h).trans (by simp [acs])
theorem conv_src {w : World} {a : Option Addr} {c : Nat} {l : List Nat} (h : Src w a l) (h1 : l = [] → a = none ∧ c = 0) : (convert BT 9 (.slice a l.length c)).run Tryd.prog w = .ok (.string (bstr l)) w := by
  by_cases h0 : 0 < l.length
  · obtain ⟨b, o, rfl, hc⟩ := h h0
    exact conv_cs rfl hc
  · obtain rfl : l = [] := List.eq_nil_of_length_eq_zero (by omega)
    obtain ⟨rfl, rfl⟩ := h1 rfl
    exact run_convert_bytes_nil w BT U8 Tryd.underlying26 Tryd.underlying5 0 0 9 Tryd.underlying9
end Go.Proofs.YtbkjaifpgknadaaDoor
