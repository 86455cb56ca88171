/-
  Two sectors compared; a sector of noughts as a literal; a slice as a sector.
-/
import Derived.Test.YtbkjaifpgknadaaDoorSecW
import Derived.DeepKeys
import Derived.Laws.StructEq
namespace Go.Proofs.YtbkjaifpgknadaaDoor
open Go Go.RowKit Go.Maps

def lits8 (l : List Nat) : List Lit := l.map fun x : Nat => Lit.int .u8 (x : Int)
theorem lits8_inj : ∀ {l m : List Nat}, lits8 l = lits8 m → l = m
  | [], [], _ => rfl
  | [], y :: m, h => by simp [lits8] at h
  | x :: l, [], h => by simp [lits8] at h
  | x :: l, y :: m, h => by
    simp only [lits8, List.map_cons, List.cons.injEq, Lit.int.injEq, true_and] at h
    rw [lits8_inj (l := l) (m := m) h.2]
    congr 1
    omega
theorem mapM_all {α β : Type} {f : α → Option β} {g : α → β} : ∀ (L : List α), (∀ i ∈ L, f i = some (g i)) → L.mapM f = some (L.map g)
  | [], _ => rfl
  | x :: L, h => by
    rw [List.mapM_cons, h x (by simp), mapM_all L (fun i hi => h i (by simp [hi]))]
    rfl
theorem range_getD (l : List Nat) : (List.range l.length).map (fun i => l.getD i 0) = l := by
  apply List.ext_getElem
  · simp
  · intro i h1 h2
    simp [List.getD, h2]
theorem take_one (l : List Nat) (i : Nat) (h : i < l.length) : ((bv l).drop i).take 1 = [.int .u8 ((l.getD i 0 : Nat) : Int)] := by
  have hb : i < (bv l).length := by rw [bv_length]; exact h
  rw [List.drop_eq_getElem_cons hb]
  have := bv_get l i h
  rw [List.getElem?_eq_getElem hb] at this
  rw [Option.some.inj this]
  rfl
theorem flat_single {α β : Type} (f : α → β) : ∀ L : List α, (L.map fun i => [f i]).flatten = L.map f
  | [] => rfl
  | x :: L => by simp [flat_single f L]
theorem u8_cells : Tryd.prog.cellsOf 5 = 1 := by kernel_rfl
theorem sec_cells : Tryd.prog.cellsOf ST = 64 := by kernel_rfl
theorem keyLits_row {P : Program} {d : Nat} {t e : TypeId} {n : Nat} (h : P.underlying t = some (.array n e)) (he : P.underlying e = some (.int .u8)) (hc : P.cellsOf t = n) (hce : P.cellsOf e = 1) (l : List Nat) (hl : l.length = n) (h8 : B8 l) :
    P.keyLits (d + 2) t (bv l) = some (lits8 l) := by
  have e1 : P.keyLits (d + 2) t (bv l) = if (bv l).length = P.cellsOf t then ((List.range n).mapM fun i => P.keyLits (d + 1) e (((bv l).drop (i * P.cellsOf e)).take (P.cellsOf e))).map List.flatten else none := by
    simp only [Program.keyLits, h]
  rw [e1, if_pos (by rw [bv_length, hc, hl]), hce]
  rw [mapM_all (g := fun i => [Lit.int .u8 ((l.getD i 0 : Nat) : Int)]) _ (fun i hi => by
    have hi' : i < l.length := by rw [hl]; exact List.mem_range.1 hi
    rw [Nat.mul_one, take_one l i hi']
    exact keyLits_int he (WalkArith.wf_u8 (by have := h8.get i; omega)))]
  simp only [Option.map_some, Option.some.injEq]
  rw [flat_single, ← hl]
  have h2 := congrArg lits8 (range_getD l)
  unfold lits8 at h2
  rw [List.map_map] at h2
  exact h2
theorem formed_sec (l : List Nat) (hl : l.length = 64) : (sec l).formed Tryd.prog ST = true := by
  simp only [sec, Value.formed]
  rw [under_sec, sec_cells]
  simp [bv_length, hl]
theorem key_sec : Tryd.prog.keyTypeAt 2 ST = true := by kernel_rfl
theorem equal_sec (l m : List Nat) (hl : l.length = 64) (hm : m.length = 64) (h8 : B8 l) (k8 : B8 m) (w : World) : (Op.equalIn 10000 ST (sec l) (sec m)).run Tryd.prog w = .ok (decide (l = m)) w := by
  obtain ⟨r, h1, h2⟩ := run_equalIn_deep (P := Tryd.prog) 9998 2 ST key_sec w 2 2 (sec l) (sec m) _ _ (formed_sec l hl) (formed_sec m hm)
    (keyLits_row (d := 0) under_sec Tryd.underlying5 sec_cells u8_cells l hl h8) (keyLits_row (d := 0) under_sec Tryd.underlying5 sec_cells u8_cells m hm k8)
  have h3 : (Op.equalIn 10000 ST (sec l) (sec m)).run Tryd.prog w = .ok r w := h1
  have h4 : r = decide (l = m) := by
    cases r
    · have : ¬ l = m := fun e => by have := h2.2 (by rw [e]); cases this
      simp [this]
    · have := lits8_inj (h2.1 rfl)
      simp [this]
  rw [← h4]
  exact h3
theorem guard_sec : Tryd.prog.eqGuardType Tryd.prog.depth ST = false := by kernel_rfl
theorem build_sec (w : World) : (Instr.build ST #[]).run Tryd.prog w = .ok (sec zeros) w := by kernel_rfl
theorem run_eql_sec (l m : List Nat) (hl : l.length = 64) (hm : m.length = 64) (h8 : B8 l) (k8 : B8 m) (w : World) : (binOp .eql ST (sec l) (sec m)).run Tryd.prog w = .ok (.bool (decide (l = m))) w := by
  have h1 := equal_sec l m hl hm h8 k8 w
  unfold sec at h1 ⊢
  rw [run_eql_struct, h1]
  rfl
theorem guard_run (x y : Operand) (l m : List Nat) (w : World) : (eqGuard .eql ST x y (sec l) (sec m)).run Tryd.prog w = .ok () w := by
  unfold sec
  rw [run_eqGuard_agg (hm := guard_sec)]
section
variable {ops : Array Oper} {rest : List Oper} {o : Oper} {a : Act} {w : World} {K : Act → World → Prop} {Q : Exit → Act → World → Prop}
theorem rd_eql_sec (x y : Operand) (rt : TypeId) (ho : o.op = .binOp .eql ST x y rt) (l m : List Nat) (hx : a.eval x = sec l) (hy : a.eval y = sec m) (hl : l.length = 64) (hm : m.length = 64) (h8 : B8 l) (k8 : B8 m) :
    (execOp a.eval o).run Tryd.prog w = .ok (.value (.bool (decide (l = m)))) w := by
  unfold execOp
  simp only [ho, hx, hy, Sem.run_bind, Sem.run_pure, Result.andThen_ok, guard_run, run_eql_sec l m hl hm h8 k8]
theorem wpList_eql_sec (hgd : o.guard = none) (x y : Operand) (rt : TypeId) (ho : o.op = .binOp .eql ST x y rt) (l m : List Nat) (hx : a.eval x = sec l) (hy : a.eval y = sec m) (hl : l.length = 64) (hm : m.length = 64) (h8 : B8 l) (k8 : B8 m)
    (h : wpList Tryd.prog ops Q rest (a.put o.dst (.bool (decide (l = m)))) w) : wpList Tryd.prog ops Q (o :: rest) a w := by
  refine wpList_plain hgd fun K hK => ?_
  unfold Oper.wp
  rw [rd_eql_sec x y rt ho l m hx hy hl hm h8 k8]
  exact hK _ _ h
theorem wpList_build_sec (hgd : o.guard = none) (ho : o.op = .build ST #[])
    (h : wpList Tryd.prog ops Q rest (a.put o.dst (sec zeros)) w) : wpList Tryd.prog ops Q (o :: rest) a w := by
  refine wpList_plain hgd fun K hK => ?_
  have hk := hK _ _ h
  unfold Oper.wp execOp
  simp only [ho, Sem.run_bind, Sem.run_pure, Result.andThen_ok, Array.map_empty, build_sec]
  exact hk
theorem run_load_src (w : World) (b o : Nat) (l : List Nat) (hc : Cs w b o l) (hl : l.length = 64) : (loadVar ST ⟨b, o, none⟩).run Tryd.prog w = .ok (sec l) w := by
  have hr : (loadCells ⟨b, o, none⟩ (bv l).length).run Tryd.prog w = .ok (bv l).toArray w :=
    run_loadCells_list (P := Tryd.prog) w ⟨b, o, none⟩ (bv l) (fun j v hv => by
      have hj : j < l.length := by
        have := (List.getElem?_eq_some_iff.1 hv).1
        rwa [bv_length] at this
      rw [bv_get l j hj] at hv
      rw [addr_add, hc j hj]
      exact hv)
  rw [bv_length, hl] at hr
  have hagg : (isAgg ST).run Tryd.prog w = .ok true w := by
    unfold isAgg
    rw [Sem.run_bind, run_underlying under_sec w]
    simp
  have hsz : (sizeOf ST).run Tryd.prog w = .ok 64 w := by kernel_rfl
  unfold loadVar
  rw [Sem.run_bind, hagg]
  simp only [Result.andThen_ok, if_true]
  rw [Sem.run_bind, hsz]
  simp only [Result.andThen_ok]
  rw [Sem.run_bind, hr]
  simp [sec]
theorem rd_load_src (x : Operand) (ho : o.op = .load ST x) (b i : Nat) (l : List Nat) (hx : a.eval x = .pointer (some ⟨b, i, none⟩)) (hg : Cs w b i l) (hl : l.length = 64) : (execOp a.eval o).run Tryd.prog w = .ok (.value (sec l)) w := by
  unfold execOp
  simp only [ho, hx, Instr.loadAt, Instr.sureAddr, Sem.run_bind, Sem.run_pure, Result.andThen_ok, run_load_src w b i l hg hl]
theorem rd_s2ap (x : Operand) (ho : o.op = .sliceToArrayPointer ST x) (p : Option Addr) (n c : Nat) (hx : a.eval x = .slice p n c) (hn : 64 ≤ n) : (execOp a.eval o).run Tryd.prog w = .ok (.value (.pointer p)) w := by
  unfold execOp
  have hlt : ¬ n < 64 := by omega
  simp [ho, hx, Instr.arrayAt, Sem.run_bind, run_underlying under_sec, hlt, Result.andThen]
end
theorem Cs.turn {F : Nat → Prop} {w w' : World} {b o : Nat} {l : List Nat} (h : Cs w b o l) (t : Turn F w w') (hF : ¬ F b) : Cs w' b o l := fun i hi => by
  have hc := h i hi
  rw [t.cell (block_lt_of_cell hc) hF]; exact hc
end Go.Proofs.YtbkjaifpgknadaaDoor
