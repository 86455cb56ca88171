/-
  The document's device: Arm, Read, Write.
-/
import Derived.Test.YtbkjaifpgknadaaDoorRefD1
namespace Go.Proofs.YtbkjaifpgknadaaDoor
open Go Go.RowKit Go.Maps

theorem info_a64 : (Tryd.prog.info? A64).map (·.size) = some 64 := by kernel_rfl
theorem under_a64 : Tryd.prog.underlying A64 = some (.array 64 U8) := Tryd.underlying69
theorem run_alloc_a64 (w : World) : (Instr.alloc A64 true (.tuple #[])).run Tryd.prog w = .ok (.pointer (some ⟨w.heap.size, 0, none⟩)) (w.alloc (.cells (bv zeros).toArray A64)) := by kernel_rfl
theorem run_load_a64 (w : World) (b o : Nat) (l : List Nat) (hc : Cs w b o l) (hl : l.length = 64) : (loadVar A64 ⟨b, o, none⟩).run Tryd.prog w = .ok (sec l) w := by
  have hr : (loadCells ⟨b, o, none⟩ (bv l).length).run Tryd.prog w = .ok (bv l).toArray w :=
    run_loadCells_list (P := Tryd.prog) w ⟨b, o, none⟩ (bv l) (fun j v hv => by
      have hj : j < l.length := by
        have := (List.getElem?_eq_some_iff.1 hv).1
        rwa [bv_length] at this
      rw [bv_get l j hj] at hv
      rw [addr_add, hc j hj]
      exact hv)
  rw [bv_length, hl] at hr
  have hagg : (isAgg A64).run Tryd.prog w = .ok true w := by
    unfold isAgg
    rw [Sem.run_bind, run_underlying under_a64 w]
    simp
  have hsz : (sizeOf A64).run Tryd.prog w = .ok 64 w := by kernel_rfl
  unfold loadVar
  rw [Sem.run_bind, hagg]
  simp only [Result.andThen_ok, if_true]
  rw [Sem.run_bind, hsz]
  simp only [Result.andThen_ok]
  rw [Sem.run_bind, hr]
  simp [sec]
theorem run_store_a64 (w : World) (g o : Nat) (cur l : List Nat) (hg : Row w g A64 cur) (hl : l.length = 64) (hfit : o + 64 ≤ cur.length) : (storeVar A64 ⟨g, o, none⟩ (sec l)).run Tryd.prog w = .ok () (w.setRow g (bv (splice cur o l)).toArray) := by
  have hst := run_storeCells_at Tryd.prog g o A64 (bv l) 0 (bv cur).toArray w hg (by simp [bv_length]; omega) (bv_one l)
  have hsz : (sizeOf A64).run Tryd.prog w = .ok 64 w := by kernel_rfl
  unfold storeVar
  rw [Sem.run_bind, hsz]
  simp only [Result.andThen_ok]
  have e1 : (sec l).cells.size = 64 := by simp [sec, Value.cells, bv_length, hl]
  simp only [e1, ne_eq, not_true_eq_false, if_false]
  have e2 : (sec l).cells.toList = bv l := by simp [sec, Value.cells]
  have e3 : ((bv cur).toArray.toList.take (o + 0) ++ bv l ++ (bv cur).toArray.toList.drop (o + 0 + (bv l).length)).toArray = (bv (splice cur o l)).toArray := by
    rw [← bv_splice]
    simp [splice]
  rw [e2, hst, e3]
section
variable {ops : Array Oper} {rest : List Oper} {o : Oper} {a : Act} {w : World} {K : Act → World → Prop} {Q : Exit → Act → World → Prop}
theorem rd_load_a64 (x : Operand) (ho : o.op = .load A64 x) (b i : Nat) (l : List Nat) (hx : a.eval x = .pointer (some ⟨b, i, none⟩)) (hg : Cs w b i l) (hl : l.length = 64) : (execOp a.eval o).run Tryd.prog w = .ok (.value (sec l)) w := by
  unfold execOp
  simp only [ho, hx, Instr.loadAt, Instr.sureAddr, Sem.run_bind, Sem.run_pure, Result.andThen_ok, run_load_a64 w b i l hg hl]
theorem wpList_load_a64 (hgd : o.guard = none) (x : Operand) (ho : o.op = .load A64 x) (b i : Nat) (l : List Nat) (hx : a.eval x = .pointer (some ⟨b, i, none⟩)) (hg : Cs w b i l) (hl : l.length = 64)
    (h : wpList Tryd.prog ops Q rest (a.put o.dst (sec l)) w) : wpList Tryd.prog ops Q (o :: rest) a w := by
  refine wpList_plain hgd fun K hK => ?_
  unfold Oper.wp
  rw [rd_load_a64 x ho b i l hx hg hl]
  exact hK _ _ h
theorem wpList_alloc_a64 (hgd : o.guard = none) (ho : o.op = .alloc A64)
    (h : ∀ g w', w.heap.size ≤ g → Row w' g A64 zeros → Below w.heap.size w w' → wpList Tryd.prog ops Q rest (a.put o.dst (.pointer (some ⟨g, 0, none⟩))) w') : wpList Tryd.prog ops Q (o :: rest) a w := by
  refine wpList_plain hgd fun K hK => ?_
  have hk := hK _ _ (h w.heap.size (w.alloc (.cells (bv zeros).toArray A64)) (Nat.le_refl _) (heap_alloc_new _ _) ((Below.refl _ _).alloc (Nat.le_refl _) _))
  unfold Oper.wp execOp
  simp only [ho, Sem.run_bind, Sem.run_pure, Result.andThen_ok, run_alloc_a64]
  exact hk
theorem wp_store_a64 (x y : Operand) (ho : o.op = .store A64 x y) (g i : Nat) (l cur : List Nat) (hx : a.eval x = .pointer (some ⟨g, i, none⟩)) (hy : a.eval y = sec l) (hg : Row w g A64 cur) (hl : l.length = 64) (hfit : i + 64 ≤ cur.length)
    (h : ∀ w', Row w' g A64 (splice cur i l) → Turn (fun j => j = g) w w' → K (a.put o.dst undef) w') : o.wp Tryd.prog a w K Q := by
  have hk := h (w.setRow g (bv (splice cur i l)).toArray) (setRow_heap w g _ _ _ _ hg) ⟨rfl, rfl, rfl, by simp, fun j _ hne => setRow_other w g j _ hne⟩
  unfold Oper.wp execOp
  simp only [ho, hx, hy, Instr.storeAt, Instr.sureAddr, Sem.run_bind, Sem.run_pure, Result.andThen_ok, run_store_a64 w g i cur l hg hl hfit]
  exact hk
theorem wpList_store_a64 (hgd : o.guard = none) (x y : Operand) (ho : o.op = .store A64 x y) (g i : Nat) (l cur : List Nat) (hx : a.eval x = .pointer (some ⟨g, i, none⟩)) (hy : a.eval y = sec l) (hg : Row w g A64 cur) (hl : l.length = 64) (hfit : i + 64 ≤ cur.length)
    (h : ∀ w', Row w' g A64 (splice cur i l) → Turn (fun j => j = g) w w' → wpList Tryd.prog ops Q rest (a.put o.dst undef) w') : wpList Tryd.prog ops Q (o :: rest) a w :=
  wpList_plain hgd fun _ hK => wp_store_a64 x y ho g i l cur hx hy hg hl hfit fun w' h1 h2 => hK _ _ (h w' h1 h2)
end
theorem flat_cs {w : World} {p N n : Nat} {f : Nat → List Nat} (hf : L64 f) (h : Row w p A64 (flatS f N)) (hn : n < N) : Cs w p (n * 64) (f n) := by
  intro i hi
  rw [hf] at hi
  rw [h.cell (n * 64 + i) (by rw [flat_len hf]; omega), flat_get hf N n i hn hi]
theorem rarm_any (w : World) (yb ps pn pw : Nat) (S : DS) (n : Int) (h : Ref w yb ps pn pw S) :
    Calls Tryd.prog 27 #[.pointer (some ⟨yb, 0, none⟩), .int .i64 n] w fun e w' => e = .returned (.tuple #[]) ∧ Ref w' yb ps pn pw { S with armed := decide (0 ≤ n), left := n } ∧ Turn (fun i => i = yb) w w' := by
  have c4 := h.c4
  have f4 := h.fz 4
  have ho := h.out
  have hset : ∀ (w1 : World) (cs : Array Value) (T : DS), w1.heap[yb]? = some (.cells cs RT (0, 0)) → cs = rcs ps pn pw T → Turn (fun i => i = yb) w w1 → T.pages = S.pages → T.safe = S.safe → T.waits = S.waits → Ref w1 yb ps pn pw T := fun w1 cs T e0 e1 t e2 e3 e4 => by
    refine ⟨by rw [e0, e1], ?_⟩
    obtain ⟨v1, v2, v3, v4⟩ := h.v.turn t (fun e => ho.1 e.symm) (fun e => ho.2.1 e.symm) (fun e => ho.2.2 e.symm)
    have r1 : rd T = rd S := by unfold rd; rw [e3, e4]
    have r2 : sfS T = sfS S := by unfold sfS; rw [e3]
    have r3 : wtS T = wtS S := by unfold wtS; rw [e4]
    exact ⟨by rw [r2, e2]; exact v1, by rw [r1, e2]; exact v2, by rw [r3, e2]; exact v3, v4⟩
  by_cases hn : n < 0
  · have hd : decide (0 ≤ n) = false := by simpa using hn
    have hr := hset ((w.setCell ⟨yb, 4, none⟩ (.int .i64 n)).setCell ⟨yb, 4, none⟩ (.int .i64 (-1))) _ { S with armed := false, left := n } (set2_same w yb 4 4 _ _ _ _ h.row) (by simp [rcs, lfS]) ((turn_set w yb 4 _).trans (turn_set _ yb 4 _)) rfl rfl rfl
    rw [hd]
    have Hr := Lib.hid (And.intro hr ((turn_set w yb 4 (.int .i64 n)).trans (turn_set _ yb 4 (.int .i64 (-1)))))
    clear hr hset h ho hd
    go_enter Tryd.func27, Tryd.ntmps27
    go_wp2
    go_end0
    have hx := Hr.out
    exact ⟨rfl, hx.1, hx.2⟩
  · have hd : decide (0 ≤ n) = true := by simp; omega
    have hr := hset (w.setCell ⟨yb, 4, none⟩ (.int .i64 n)) _ { S with armed := true, left := n } (heap_setCell_same w yb 4 _ _ _ h.row) (by simp [rcs, lfS]) (turn_set w yb 4 _) rfl rfl rfl
    rw [hd]
    have Hr := Lib.hid (And.intro hr (turn_set w yb 4 (.int .i64 n)))
    clear hr hset h ho hd
    go_enter Tryd.func27, Tryd.ntmps27
    go_wp2
    go_end0
    exact ⟨rfl, Hr.out.1, Hr.out.2⟩
/-- A new sector behind a call of the document's. -/
def NewSecR (w : World) (l : List Nat) (x : Value) (e : Ending) (w' : World) : Prop := ∃ g, w.heap.size ≤ g ∧ e = .returned (.tuple #[.slice (some ⟨g, 0, none⟩) 64 64, x]) ∧ Row w' g A64 l ∧ Below w.heap.size w w'
theorem rread_bad (w : World) (ps pn pw : Nat) (S : DS) (n : Int) (f : Int) (hf : amongE S n (8 * S.pages : Nat) = f) (hf0 : f ≠ 0) (hw : WfS S) :
    Calls Tryd.prog 18 #[.agg (rcs ps pn pw S), .int .i64 n] w fun e w' => e = .returned (.tuple #[.slice none 0 0, .int .i64 f]) ∧ Below w.heap.size w w' := by
  have hp1 := hw.p1
  have hp2 := hw.p2
  have hb : Below w.heap.size w (w.alloc (.cells (rcs ps pn pw S) RT)) := (Below.refl _ w).alloc (Nat.le_refl _) _
  unfold rcs at hb ⊢
  have Hb := Lib.hid hb
  clear hb hw
  unfold amongE at hf
  by_cases hd : S.down = true
  · rw [if_pos hd] at hf
    rw [hd] at Hb ⊢
    subst hf
    clear hd hf0
    go_enter Tryd.func18, Tryd.ntmps18
    go_wp2
    go_ret2
    exact ⟨rfl, Hb.out⟩
  · rw [if_neg hd] at hf
    have hdf : S.down = false := by cases hq : S.down <;> simp_all
    rw [hdf] at Hb ⊢
    by_cases hr : n < 0 ∨ ((8 * S.pages : Nat) : Int) ≤ n
    · rw [if_pos hr] at hf
      subst hf
      by_cases h1 : n < 0
      · clear hr hd hdf hf0
        go_enter Tryd.func18, Tryd.ntmps18
        go_wp2
        go_ret2
        exact ⟨rfl, Hb.out⟩
      · have h2 : 8 * (S.pages : Int) ≤ n := by omega
        have h3 : decide (n < 0) = false := by simpa using h1
        clear hr hd hdf hf0 h1
        go_enter Tryd.func18, Tryd.ntmps18
        go_wp2
        go_ret2
        exact ⟨rfl, Hb.out⟩
    · rw [if_neg hr] at hf; exact absurd hf.symm hf0
set_option maxRecDepth 100000 in
theorem rread_ok (w : World) (ps pn pw : Nat) (S : DS) (n : Nat) (hf : amongE S n (8 * S.pages : Nat) = 0) (hw : WfS S) (h : RefV w ps pn pw S) :
    Calls Tryd.prog 18 #[.agg (rcs ps pn pw S), .int .i64 (n : Int)] w (NewSecR w (rd S n) (.int .i64 0)) := by
  have hp1 := hw.p1
  have hp2 := hw.p2
  obtain ⟨hd, hnM⟩ : S.down = false ∧ n < 8 * S.pages := by
    rcases among_ne S n ((8 * S.pages : Nat) : Int) with ⟨_, h2, _, h4⟩ | he | he
    · exact ⟨h2, by omega⟩
    · rw [he] at hf; cases hf
    · rw [he] at hf; cases hf
  have hcs := flat_cs hw.rd h.now hnM
  have hb : Below w.heap.size w (w.alloc (.cells (rcs ps pn pw S) RT)) := (Below.refl _ w).alloc (Nat.le_refl _) _
  have hcs1 : Cs (w.alloc (.cells (rcs ps pn pw S) RT)) pn (n * 64) (rd S n) := hcs.below hb h.now.lt
  have hl := hw.rd n
  unfold rcs at hb hcs1 ⊢
  rw [hd] at hb hcs1 ⊢
  have HX := Lib.hid (And.intro hb (And.intro hcs1 hl))
  have d1 : decide (8 * (S.pages : Int) ≤ (n : Int)) = false := by simp; omega
  have hni : (n : Int) < 8 * (S.pages : Int) := by omega
  generalize rd S n = L at *
  clear hcs hb hcs1 hl h hw hf hd
  go_enter Tryd.func18, Tryd.ntmps18
  go_wp2_with (first
    | (refine wpList_load_a64 rfl (.tmp 21) rfl pn (n * 64) L (by rfl) HX.out.2.1 HX.out.2.2 ?_)
    | (refine wpList_alloc_a64 rfl rfl ?_; intro g w3 hg3 hr3 hb3)
    | (refine wpList_store_a64 rfl (.tmp 6) (.tmp 22) rfl g 0 L zeros (by rfl) (by rfl) hr3 HX.out.2.2 (by rw [zeros_len]; omega) ?_; intro w4 hr4 ht4))
  have hfin : Below w.heap.size w w4 := by
    have h3 : Below w.heap.size w w3 := HX.out.1.trans (hb3.mono HX.out.1.size)
    exact h3.trans (ht4.below h3.size (fun i hi => by rw [hi]; exact Nat.le_trans HX.out.1.size hg3))
  have hz : splice zeros 0 L = L := by
    rw [splice_start, HX.out.2.2, List.drop_of_length_le (by rw [zeros_len]; omega), List.append_nil]
  rw [hz] at hr4
  have Hf := Lib.hid (And.intro hfin (And.intro hr4 (Nat.le_trans HX.out.1.size hg3)))
  clear hfin hr4 ht4 hr3 hb3 hg3 hz
  go_ret2
  exact ⟨g, Hf.out.2.2, rfl, Hf.out.2.1, Hf.out.1⟩
/-- The first k bytes are l's. -/
def mx (l o : List Nat) (k : Nat) : List Nat := l.take k ++ o.drop k
theorem mx_len {l o : List Nat} (hl : l.length = 64) (ho : o.length = 64) {k : Nat} (hk : k ≤ 64) : (mx l o k).length = 64 := by
  unfold mx; rw [List.length_append, List.length_take, List.length_drop]; omega
theorem mx_set {l o : List Nat} (hl : l.length = 64) (ho : o.length = 64) {k : Nat} (hk : k < 64) : (mx l o k).set k (l.getD k 0) = mx l o (k + 1) := by
  unfold mx
  rw [List.set_append_right _ _ (by rw [List.length_take]; omega), List.length_take, Nat.min_eq_left (by omega), Nat.sub_self, List.drop_eq_getElem_cons (by omega), List.set_cons_zero, List.take_succ_eq_append_getElem (by omega), List.append_assoc]
  rw [List.getD_eq_getElem?_getD, List.getElem?_eq_getElem (by omega)]
  rfl
theorem at1_at1 (f : Nat → List Nat) (n : Nat) (x y : List Nat) : at1 (at1 f n x) n y = at1 f n y := by
  funext m; unfold at1; split <;> rfl
theorem at1_same (f : Nat → List Nat) (n : Nat) (x : List Nat) : at1 f n x n = x := by unfold at1; rw [if_pos rfl]
/-- What is written lies in no block of the device. -/
def Off (a : Option Addr) (F : Nat → Prop) : Prop := ∀ b o, a = some ⟨b, o, none⟩ → ¬ F b
theorem src_turn {F : Nat → Prop} {w w' : World} {a : Option Addr} {l : List Nat} (h : Src w a l) (t : Turn F w w') (hF : Off a F) : Src w' a l := fun h0 => by
  obtain ⟨b, o, rfl, hc⟩ := h h0
  exact ⟨b, o, rfl, hc.turn t (hF b o rfl)⟩
theorem rd_write (T : DS) (n : Nat) (l : List Nat) : rd { T with waits := upd T.waits n (some l) } = at1 (rd T) n l := by
  funext m; unfold rd at1 upd
  by_cases e : m = n
  · simp [e]
  · simp [e]
theorem wt_write (T : DS) (n : Nat) (l : List Nat) : wtS { T with waits := upd T.waits n (some l) } = bat (wtS T) n true := by
  funext m; unfold wtS bat upd
  by_cases e : m = n
  · simp [e]
  · simp [e]
end Go.Proofs.YtbkjaifpgknadaaDoor
