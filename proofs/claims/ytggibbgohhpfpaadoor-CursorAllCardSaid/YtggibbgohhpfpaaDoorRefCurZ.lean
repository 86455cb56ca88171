/-
  The document's cursor: New, Next, Prev, Seek.
-/
import Derived.Test.YtggibbgohhpfpaaDoorCursorZ
import Derived.Test.YtggibbgohhpfpaaDoorRefRowsZ
import Derived.Test.YtggibbgohhpfpaaDoorTurnZ
namespace Go.Proofs.YtggibbgohhpfpaaDoor
open Go Go.RowKit

abbrev RCT : TypeId := 45
/-- A block that holds the document's cursor. -/
def RCur (w : World) (b : Nat) (a : Option Addr) (n c k : Nat) : Prop := w.heap[b]? = some (.cells #[.slice a n c, .int .i64 k] RCT (0, 0))
section
variable {w : World} {b : Nat} {a : Option Addr} {n c k : Nat}
theorem RCur.c0 (h : RCur w b a n c k) : w.cell? ⟨b, 0, none⟩ = some (.slice a n c) := by
  have h' : w.heap[b]? = _ := h
  simp [World.cell?, h']
theorem RCur.c1 (h : RCur w b a n c k) : w.cell? ⟨b, 1, none⟩ = some (.int .i64 k) := by
  have h' : w.heap[b]? = _ := h
  simp [World.cell?, h']
theorem RCur.fz (h : RCur w b a n c k) (j : Nat) : w.frozen? ⟨b, j, none⟩ = false := by
  have h' : w.heap[b]? = _ := h
  simp [World.frozen?, h']
theorem RCur.lt (h : RCur w b a n c k) : b < w.heap.size := (Array.getElem?_eq_some_iff.1 h).1
theorem RCur.ext {w' : World} (h : RCur w b a n c k) (hb : Below w.heap.size w w') : RCur w' b a n c k := (hb.block b h.lt).trans h
theorem RCur.put1 (h : RCur w b a n c k) (m : Nat) : RCur (w.setCell ⟨b, 1, none⟩ (.int .i64 m)) b a n c m := heap_setCell_same w b 1 _ _ _ h
theorem RCur.put (h : RCur w b a n c k) (a2 : Option Addr) (n2 c2 k2 : Nat) : RCur ((w.setCell ⟨b, 0, none⟩ (.slice a2 n2 c2)).setCell ⟨b, 1, none⟩ (.int .i64 k2)) b a2 n2 c2 k2 :=
  heap_setCell_same _ b 1 _ _ _ (heap_setCell_same w b 0 _ _ _ h)
theorem RCur.tf (h : RCur w b a n c k) : TF w (fun i => i = b) := TF.var (h : w.heap[b]? = _)
end
/-- A block that holds an entry of the document's. -/
def RB (w : World) (b : Nat) (y : En) : Prop := w.heap[b]? = some (.cells #[.string y.k, .string y.v] RET (0, 0))
section
variable {w : World} {b : Nat} {y : En}
theorem RB.c0 (h : RB w b y) : w.cell? ⟨b, 0, none⟩ = some (.string y.k) := by
  have h' : w.heap[b]? = _ := h
  simp [World.cell?, h']
theorem RB.c1 (h : RB w b y) : w.cell? ⟨b, 1, none⟩ = some (.string y.v) := by
  have h' : w.heap[b]? = _ := h
  simp [World.cell?, h']
theorem RB.fz (h : RB w b y) (j : Nat) : w.frozen? ⟨b, j, none⟩ = false := by
  have h' : w.heap[b]? = _ := h
  simp [World.frozen?, h']
theorem RB.lt (h : RB w b y) : b < w.heap.size := (Array.getElem?_eq_some_iff.1 h).1
theorem RB.ext {w' : World} (h : RB w b y) (hb : Below w.heap.size w w') : RB w' b y := (hb.block b h.lt).trans h
theorem RB.put (h : RB w b y) (z : En) : RB ((w.setCell ⟨b, 0, none⟩ (.string z.k)).setCell ⟨b, 1, none⟩ (.string z.v)) b z :=
  heap_setCell_same _ b 1 _ _ _ (heap_setCell_same w b 0 _ _ _ h)
end
theorem results_cells_three {fn : Func} {p q u : Tmp} {ty ty2 : TypeId} (h : fn.results = #[.cell p ty, .cell q ty2, .tmp u]) (tmps : Array Value) (P : Program) (w : World) :
    (results fn tmps).run P w =
      ((asAddr (tmps.getD p undef)).run P w).andThen fun a w₁ => ((loadVar ty a).run P w₁).andThen fun v w₂ => ((asAddr (tmps.getD q undef)).run P w₂).andThen fun a2 w₃ => ((loadVar ty2 a2).run P w₃).andThen fun v2 w₄ => .ok (.tuple #[v, v2, tmps.getD u undef]) w₄ := by
  simp only [results, h]
  simp [Sem.run_bind, Result.andThen]
/-- The three blocks that Next and Prev lay. -/
theorem three_ref (w : World) (a : Option Addr) (n c k : Nat) : ∃ W, ((w.alloc (.cells #[.slice a n c, .int .i64 k] RCT)).alloc (.cells #[.slice none 0 0, .int .i64 0] RCT)).alloc (.cells #[.string ⟨#[]⟩, .string ⟨#[]⟩] RET) = W ∧
    RCur W w.heap.size a n c k ∧ RCur W (w.heap.size + 1) none 0 0 0 ∧ RB W (w.heap.size + 1 + 1) E0 ∧ Below w.heap.size w W := by
  obtain ⟨W, hW, h1, h2, h3, hb, _⟩ := three_own w #[.slice a n c, .int .i64 k] #[.slice none 0 0, .int .i64 0] #[.string ⟨#[]⟩, .string ⟨#[]⟩] RCT RCT RET
  exact ⟨W, hW, h1, h2, h3, hb⟩
/-- Both results stored. -/
theorem put_both {W : World} {br be : Nat} {a0 a : Option Addr} {n0 c0 k0 : Nat} {y0 : En} (hr : RCur W br a0 n0 c0 k0) (he : RB W be y0) (hne : br ≠ be) (n c k : Nat) (y : En) :
    RCur ((((W.setCell ⟨br, 0, none⟩ (.slice a n c)).setCell ⟨br, 1, none⟩ (.int .i64 k)).setCell ⟨be, 0, none⟩ (.string y.k)).setCell ⟨be, 1, none⟩ (.string y.v)) br a n c k ∧
      RB ((((W.setCell ⟨br, 0, none⟩ (.slice a n c)).setCell ⟨br, 1, none⟩ (.int .i64 k)).setCell ⟨be, 0, none⟩ (.string y.k)).setCell ⟨be, 1, none⟩ (.string y.v)) be y := by
  have h1 := hr.put a n c k
  have t1 := turn_put W br (.slice a n c) (.int .i64 k)
  have e1 : RB _ be y0 := t1.hg he (fun e => hne e.symm)
  have t2 := turn_put ((W.setCell ⟨br, 0, none⟩ (.slice a n c)).setCell ⟨br, 1, none⟩ (.int .i64 k)) be (.string y.k) (.string y.v)
  exact ⟨t2.hg h1 hne, e1.put y⟩
theorem below_both {w W : World} {br be : Nat} {u v x z : Value} (hb : Below w.heap.size w W) (h1 : w.heap.size ≤ br) (h2 : w.heap.size ≤ be) :
    Below w.heap.size w ((((W.setCell ⟨br, 0, none⟩ u).setCell ⟨br, 1, none⟩ v).setCell ⟨be, 0, none⟩ x).setCell ⟨be, 1, none⟩ z) := below_put (below_put hb h1) h2
set_option maxRecDepth 100000 in
theorem refNext_at (w : World) (a : Option Addr) (n c : Nat) (L : List En) (k : Nat) (hs : ES entE w a L) (hn : L.length = n) (hl : n ≤ 60000) (hk : k < n) :
    Calls Tryd.prog 18 #[.agg #[.slice a n c, .int .i64 k]] w fun e w' => e = .returned (.tuple #[.agg #[.slice a n c, .int .i64 (k + 1 : Nat)], .agg #[.string (ea L k).k, .string (ea L k).v], .bool true]) ∧ Below w.heap.size w w' := by
  obtain ⟨W1, hW1, k1, k2, k3, hb1⟩ := three_ref w a n c k
  obtain ⟨W, hW⟩ : ∃ W, W1.drew = W := ⟨_, rfl⟩
  have hbd : Below W1.heap.size W1 W := by rw [← hW]; exact (Below.refl _ _).drew
  have hbW := hb1.trans (hbd.mono hb1.size)
  have t0 := k1.c0
  have t1 := k1.c1
  have m1 := k1.ext hbd
  have m2 := k2.ext hbd
  have m3 := k3.ext hbd
  obtain ⟨bc, hbc⟩ : ∃ bc, w.heap.size = bc := ⟨_, rfl⟩
  obtain ⟨br, hbr⟩ : ∃ br, bc + 1 = br := ⟨_, rfl⟩
  obtain ⟨be, hbe⟩ : ∃ be, br + 1 = be := ⟨_, rfl⟩
  rw [hbc] at m1 m2 m3
  rw [hbr] at m2 m3
  rw [hbe] at m3
  obtain ⟨g, o, rfl, hcell⟩ := hs.ents (by rw [hn]; omega)
  have hc := hcell k (by omega)
  have lg := block_lt_of_cell hc.1
  have hc0 : W.cell? ⟨g, o + k * 2, none⟩ = some (.string (ea L k).k) := by rw [hbW.cell (p := ⟨g, o + k * 2, none⟩) lg]; exact hc.1
  have hc1 : W.cell? ⟨g, o + k * 2 + 1, none⟩ = some (.string (ea L k).v) := by rw [hbW.cell (p := ⟨g, o + k * 2 + 1, none⟩) lg]; exact hc.2
  dsimp only at lg
  have u0 : ∀ w', Turn (fun i => i = br ∨ i = be) W w' → w'.cell? ⟨bc, 0, none⟩ = some (.slice (some ⟨g, o, none⟩) n c) := fun w' t => (show RCur w' bc (some ⟨g, o, none⟩) n c k from t.hg m1 (by omega)).c0
  have u1 : ∀ w', Turn (fun i => i = br ∨ i = be) W w' → w'.cell? ⟨bc, 1, none⟩ = some (.int .i64 k) := fun w' t => (show RCur w' bc (some ⟨g, o, none⟩) n c k from t.hg m1 (by omega)).c1
  have u2 : ∀ w', Turn (fun i => i = br ∨ i = be) W w' → w'.cell? ⟨g, o + k * 2, none⟩ = some (.string (ea L k).k) := fun w' t => by
    rw [t.cell (p := ⟨g, o + k * 2, none⟩) (block_lt_of_cell hc0) (by show ¬ (g = br ∨ g = be); omega)]; exact hc0
  have u3 : ∀ w', Turn (fun i => i = br ∨ i = be) W w' → w'.cell? ⟨g, o + k * 2 + 1, none⟩ = some (.string (ea L k).v) := fun w' t => by
    rw [t.cell (p := ⟨g, o + k * 2 + 1, none⟩) (block_lt_of_cell hc1) (by show ¬ (g = br ∨ g = be); omega)]; exact hc1
  obtain ⟨x, hx⟩ : ∃ x, ea L k = x := ⟨_, rfl⟩
  rw [hx] at u2 u3
  rw [hx]
  obtain ⟨K1, hK1⟩ : ∃ K1, k + 1 = K1 := ⟨_, rfl⟩
  rw [hK1]
  have z1 : (k : Int) + 1 = (K1 : Int) := by omega
  have z3 : IntKind.i64.wrap (K1 : Int) = (K1 : Int) := by rw [IntKind.wrap_i64]; omega
  have z4 : IntKind.i64.wrap (k : Int) = (k : Int) := by rw [IntKind.wrap_i64]; omega
  have d1 : decide ((n : Int) ≤ (k : Int)) = false := decide_eq_false (by omega)
  have d2 : ¬ n ≤ k := by omega
  have i0 : (0 : Int) ≤ (k : Int) := by omega
  have i1 : (k : Int) < (n : Int) := by omega
  have hb2 := put_both (a := some ⟨g, o, none⟩) m2 m3 (by omega) n c K1 x
  have p0 := hb2.1.c0
  have p1 := hb2.1.c1
  have p2 := hb2.2.c0
  have p3 := hb2.2.c1
  have r0 := m2.fz 0
  have r1 := m2.fz 1
  have m2c := m2.c0
  have m2d := m2.c1
  have T1 := turn_put W br (.slice (some ⟨g, o, none⟩) n c) (.int .i64 K1)
  have e1 : RB ((W.setCell ⟨br, 0, none⟩ (.slice (some ⟨g, o, none⟩) n c)).setCell ⟨br, 1, none⟩ (.int .i64 K1)) be E0 := T1.hg m3 (by omega)
  have y0 := e1.fz 0
  have y1 := e1.fz 1
  have y2 := e1.c0
  have y3 := e1.c1
  simp only [E0] at y2 y3
  have Hfin : Hid (Below w.heap.size w ((((W.setCell ⟨br, 0, none⟩ (.slice (some ⟨g, o, none⟩) n c)).setCell ⟨br, 1, none⟩ (.int .i64 K1)).setCell ⟨be, 0, none⟩ (.string x.k)).setCell ⟨be, 1, none⟩ (.string x.v))) := below_both hbW (by omega) (by omega)
  rw [← hW1] at t0 t1
  have HW := Lib.hid (And.intro hW1 hW)
  have He := Lib.hid (And.intro hbc (And.intro hbr hbe))
  obtain ⟨xk, xv, xh⟩ := x
  dsimp only at u2 u3 p2 p3
  have hne : Hid (br ≠ be) := by show _ ≠ _; omega
  clear hs hn hW1 k1 k2 k3 hb1 hW hbd hbW m1 m2 m3 hcell hc lg hc0 hc1 hx hK1 hb2 T1 e1 hbc hbr hbe
  go_enter Tryd.func18, Tryd.ntmps18
  go_wp2_with fail
  rw [He.out.1, He.out.2.1, He.out.2.2]
  refine wp_region_gx (fun i => i = br ∨ i = be) (.rd 0 (.rd 1 (.rd 2 (.rd 3 (.rd 4 (.rd 5 (.rd 6 (.rd 7 (.rd 8 (.rd 9 (.rd 10 (.rd 11 (.call 12 (.call 13 (.rd 14 .done))))))))))))))) (by kernel_rfl) (by kernel_rfl) (by kernel_rfl) (by kernel_rfl) (fun _ _ _ _ _ h => h) ?_
  rw [HW.out.1, HW.out.2]
  iterate 12 (refine wpGx_read (o := ⟨_, _, _, _, _, _⟩) (v := ?_) rfl (by rfl) ?_ ?_; rotate_left; (intro w' hw'; go_simp; with_reducible rfl); simp only [Act.put, List.setIfInBounds_toArray, List.set_cons_zero, List.set_cons_succ])
  clear u0 u1 u2 u3 t0 t1
  refine stepX_call (o := ⟨_, _, _, _, _, _⟩) rfl (by rfl) (fun K hK => ?_)
  go_simp
  refine hK (fun i => i = be) (fun _ h _ => .inr h) _ _ ((turn_put _ _ _ _).mono (fun _ h _ => .inl h)) ?_
  clear hK K r0 r1 m2c m2d
  refine stepX_call (o := ⟨_, _, _, _, _, _⟩) rfl (by rfl) (fun K hK => ?_)
  go_simp
  refine hK (fun _ => False) (fun _ h => h.elim) _ _ (turn_put _ _ _ _) ?_
  clear hK K y0 y1 y2 y3
  iterate 1 (refine wpGx_read (o := ⟨_, _, _, _, _, _⟩) (v := ?_) rfl (by rfl) ?_ ?_; rotate_left; (intro w' hw'; go_simp; with_reducible rfl); simp only [Act.put, List.setIfInBounds_toArray, List.set_cons_zero, List.set_cons_succ])
  refine wpGx_done ?_
  go_wp2_with fail
  refine bodyPost_ret (v := _) (by rw [results_cells_three rfl]; go_simp) rfl ⟨rfl, Hfin.out⟩
set_option maxRecDepth 100000 in
theorem refPrev_at (w : World) (a : Option Addr) (n c : Nat) (L : List En) (k : Nat) (hs : ES entE w a L) (hn : L.length = n) (hl : n ≤ 60000) (hk : 0 < k) (hkn : k ≤ n) :
    Calls Tryd.prog 16 #[.agg #[.slice a n c, .int .i64 k]] w fun e w' => e = .returned (.tuple #[.agg #[.slice a n c, .int .i64 (k - 1 : Nat)], .agg #[.string (ea L (k - 1)).k, .string (ea L (k - 1)).v], .bool true]) ∧ Below w.heap.size w w' := by
  obtain ⟨K1, hK1⟩ : ∃ K1, k - 1 = K1 := ⟨_, rfl⟩
  rw [hK1]
  obtain ⟨W1, hW1, k1, k2, k3, hb1⟩ := three_ref w a n c k
  obtain ⟨W, hW⟩ : ∃ W, W1.drew = W := ⟨_, rfl⟩
  have hbd : Below W1.heap.size W1 W := by rw [← hW]; exact (Below.refl _ _).drew
  have hbW := hb1.trans (hbd.mono hb1.size)
  have t0 := k1.c0
  have t1 := k1.c1
  have m1 := k1.ext hbd
  have m2 := k2.ext hbd
  have m3 := k3.ext hbd
  obtain ⟨bc, hbc⟩ : ∃ bc, w.heap.size = bc := ⟨_, rfl⟩
  obtain ⟨br, hbr⟩ : ∃ br, bc + 1 = br := ⟨_, rfl⟩
  obtain ⟨be, hbe⟩ : ∃ be, br + 1 = be := ⟨_, rfl⟩
  rw [hbc] at m1 m2 m3
  rw [hbr] at m2 m3
  rw [hbe] at m3
  obtain ⟨g, o, rfl, hcell⟩ := hs.ents (by rw [hn]; omega)
  have hc := hcell K1 (by omega)
  have lg := block_lt_of_cell hc.1
  have hc0 : W.cell? ⟨g, o + K1 * 2, none⟩ = some (.string (ea L K1).k) := by rw [hbW.cell (p := ⟨g, o + K1 * 2, none⟩) lg]; exact hc.1
  have hc1 : W.cell? ⟨g, o + K1 * 2 + 1, none⟩ = some (.string (ea L K1).v) := by rw [hbW.cell (p := ⟨g, o + K1 * 2 + 1, none⟩) lg]; exact hc.2
  dsimp only at lg
  have u0 : ∀ w', Turn (fun i => i = br ∨ i = be) W w' → w'.cell? ⟨bc, 0, none⟩ = some (.slice (some ⟨g, o, none⟩) n c) := fun w' t => (show RCur w' bc (some ⟨g, o, none⟩) n c k from t.hg m1 (by omega)).c0
  have u1 : ∀ w', Turn (fun i => i = br ∨ i = be) W w' → w'.cell? ⟨bc, 1, none⟩ = some (.int .i64 k) := fun w' t => (show RCur w' bc (some ⟨g, o, none⟩) n c k from t.hg m1 (by omega)).c1
  have u2 : ∀ w', Turn (fun i => i = br ∨ i = be) W w' → w'.cell? ⟨g, o + K1 * 2, none⟩ = some (.string (ea L K1).k) := fun w' t => by
    rw [t.cell (p := ⟨g, o + K1 * 2, none⟩) (block_lt_of_cell hc0) (by show ¬ (g = br ∨ g = be); omega)]; exact hc0
  have u3 : ∀ w', Turn (fun i => i = br ∨ i = be) W w' → w'.cell? ⟨g, o + K1 * 2 + 1, none⟩ = some (.string (ea L K1).v) := fun w' t => by
    rw [t.cell (p := ⟨g, o + K1 * 2 + 1, none⟩) (block_lt_of_cell hc1) (by show ¬ (g = br ∨ g = be); omega)]; exact hc1
  obtain ⟨x, hx⟩ : ∃ x, ea L K1 = x := ⟨_, rfl⟩
  rw [hx] at u2 u3
  rw [hx]
  have z1 : (k : Int) - 1 = (K1 : Int) := by omega
  have z3 : IntKind.i64.wrap (K1 : Int) = (K1 : Int) := by rw [IntKind.wrap_i64]; omega
  have z4 : IntKind.i64.wrap (k : Int) = (k : Int) := by rw [IntKind.wrap_i64]; omega
  have d1 : ((k : Int) == 0) = false := by rw [beq_eq_false_iff_ne]; omega
  have d2 : (k == 0) = false := by rw [beq_eq_false_iff_ne]; omega
  have i0 : (0 : Int) ≤ (K1 : Int) := by omega
  have i1 : (K1 : Int) < (n : Int) := by omega
  have hb2 := put_both (a := some ⟨g, o, none⟩) m2 m3 (by omega) n c K1 x
  have p0 := hb2.1.c0
  have p1 := hb2.1.c1
  have p2 := hb2.2.c0
  have p3 := hb2.2.c1
  have r0 := m2.fz 0
  have r1 := m2.fz 1
  have m2c := m2.c0
  have m2d := m2.c1
  have T1 := turn_put W br (.slice (some ⟨g, o, none⟩) n c) (.int .i64 K1)
  have e1 : RB ((W.setCell ⟨br, 0, none⟩ (.slice (some ⟨g, o, none⟩) n c)).setCell ⟨br, 1, none⟩ (.int .i64 K1)) be E0 := T1.hg m3 (by omega)
  have y0 := e1.fz 0
  have y1 := e1.fz 1
  have y2 := e1.c0
  have y3 := e1.c1
  simp only [E0] at y2 y3
  have Hfin : Hid (Below w.heap.size w ((((W.setCell ⟨br, 0, none⟩ (.slice (some ⟨g, o, none⟩) n c)).setCell ⟨br, 1, none⟩ (.int .i64 K1)).setCell ⟨be, 0, none⟩ (.string x.k)).setCell ⟨be, 1, none⟩ (.string x.v))) := below_both hbW (by omega) (by omega)
  rw [← hW1] at t0 t1
  have HW := Lib.hid (And.intro hW1 hW)
  have He := Lib.hid (And.intro hbc (And.intro hbr hbe))
  obtain ⟨xk, xv, xh⟩ := x
  dsimp only at u2 u3 p2 p3
  have hne : Hid (br ≠ be) := by show _ ≠ _; omega
  clear hs hn hW1 k1 k2 k3 hb1 hW hbd hbW m1 m2 m3 hcell hc lg hc0 hc1 hx hK1 hb2 T1 e1 hbc hbr hbe
  go_enter Tryd.func16, Tryd.ntmps16
  go_wp2_with fail
  rw [He.out.1, He.out.2.1, He.out.2.2]
  refine wp_region_gx (fun i => i = br ∨ i = be) (.rd 0 (.rd 1 (.rd 2 (.rd 3 (.rd 4 (.rd 5 (.rd 6 (.rd 7 (.rd 8 (.rd 9 (.rd 10 (.rd 11 (.rd 12 (.call 13 (.call 14 (.rd 15 .done)))))))))))))))) (by kernel_rfl) (by kernel_rfl) (by kernel_rfl) (by kernel_rfl) (fun _ _ _ _ _ h => h) ?_
  rw [HW.out.1, HW.out.2]
  iterate 13 (refine wpGx_read (o := ⟨_, _, _, _, _, _⟩) (v := ?_) rfl (by rfl) ?_ ?_; rotate_left; (intro w' hw'; go_simp; with_reducible rfl); simp only [Act.put, List.setIfInBounds_toArray, List.set_cons_zero, List.set_cons_succ])
  clear u0 u1 u2 u3 t0 t1
  refine stepX_call (o := ⟨_, _, _, _, _, _⟩) rfl (by rfl) (fun K hK => ?_)
  go_simp
  refine hK (fun i => i = be) (fun _ h _ => .inr h) _ _ ((turn_put _ _ _ _).mono (fun _ h _ => .inl h)) ?_
  clear hK K r0 r1 m2c m2d
  refine stepX_call (o := ⟨_, _, _, _, _, _⟩) rfl (by rfl) (fun K hK => ?_)
  go_simp
  refine hK (fun _ => False) (fun _ h => h.elim) _ _ (turn_put _ _ _ _) ?_
  clear hK K y0 y1 y2 y3
  iterate 1 (refine wpGx_read (o := ⟨_, _, _, _, _, _⟩) (v := ?_) rfl (by rfl) ?_ ?_; rotate_left; (intro w' hw'; go_simp; with_reducible rfl); simp only [Act.put, List.setIfInBounds_toArray, List.set_cons_zero, List.set_cons_succ])
  refine wpGx_done ?_
  go_wp2_with fail
  refine bodyPost_ret (v := _) (by rw [results_cells_three rfl]; go_simp) rfl ⟨rfl, Hfin.out⟩
set_option maxRecDepth 100000 in
theorem refNext_end (w : World) (a : Option Addr) (n c : Nat) :
    Calls Tryd.prog 18 #[.agg #[.slice a n c, .int .i64 n]] w fun e w' => e = .returned (.tuple #[.agg #[.slice a n c, .int .i64 n], .agg #[.string ⟨#[]⟩, .string ⟨#[]⟩], .bool false]) ∧ Below w.heap.size w w' := by
  have Hb := Lib.hid (fun o1 o2 o3 => three_blocks w o1 o2 o3)
  have d1 : decide ((n : Int) ≤ (n : Int)) = true := by simp
  go_enter Tryd.func18, Tryd.ntmps18
  go_wp2_with fail
  refine bodyPost_ret (v := _) (by rw [results_cells_three rfl]; go_simp) rfl ⟨rfl, Hb.out _ _ _⟩
set_option maxRecDepth 100000 in
theorem refPrev_start (w : World) (a : Option Addr) (n c : Nat) :
    Calls Tryd.prog 16 #[.agg #[.slice a n c, .int .i64 0]] w fun e w' => e = .returned (.tuple #[.agg #[.slice a n c, .int .i64 0], .agg #[.string ⟨#[]⟩, .string ⟨#[]⟩], .bool false]) ∧ Below w.heap.size w w' := by
  have Hb := Lib.hid (fun o1 o2 o3 => three_blocks w o1 o2 o3)
  go_enter Tryd.func16, Tryd.ntmps16
  go_wp2_with fail
  refine bodyPost_ret (v := _) (by rw [results_cells_three rfl]; go_simp) rfl ⟨rfl, Hb.out _ _ _⟩
theorem refNext_any (w : World) (a : Option Addr) (n c : Nat) (L : List En) (k : Nat) (hs : ES entE w a L) (hn : L.length = n) (hl : n ≤ 60000) (hk : k ≤ n) :
    Calls Tryd.prog 18 #[.agg #[.slice a n c, .int .i64 k]] w fun e w' => e = .returned (.tuple #[.agg #[.slice a n c, .int .i64 (nextK n k : Nat)], .agg #[.string (ea L k).k, .string (ea L k).v], .bool (decide (k < n))]) ∧ Below w.heap.size w w' := by
  by_cases h : k < n
  · refine (refNext_at w a n c L k hs hn hl h).mono ?_
    rintro e w' ⟨rfl, hb⟩
    refine ⟨?_, hb⟩
    unfold nextK; rw [if_pos h, decide_eq_true h]
  · obtain rfl : k = n := by omega
    refine (refNext_end w a k c).mono ?_
    rintro e w' ⟨rfl, hb⟩
    refine ⟨?_, hb⟩
    have e1 : ea L k = E0 := by rw [← hn]; exact ea_end L
    unfold nextK; rw [if_neg h, decide_eq_false h, e1]; rfl
theorem refPrev_any (w : World) (a : Option Addr) (n c : Nat) (L : List En) (k : Nat) (hs : ES entE w a L) (hn : L.length = n) (hl : n ≤ 60000) (hk : k ≤ n) :
    Calls Tryd.prog 16 #[.agg #[.slice a n c, .int .i64 k]] w fun e w' => e = .returned (.tuple #[.agg #[.slice a n c, .int .i64 (k - 1 : Nat)], .agg #[.string (prevE L k).k, .string (prevE L k).v], .bool (decide (0 < k))]) ∧ Below w.heap.size w w' := by
  by_cases h : 0 < k
  · refine (refPrev_at w a n c L k hs hn hl h hk).mono ?_
    rintro e w' ⟨rfl, hb⟩
    refine ⟨?_, hb⟩
    unfold prevE; rw [if_neg (by omega), decide_eq_true h]
  · obtain rfl : k = 0 := by omega
    refine (refPrev_start w a n c).mono ?_
    rintro e w' ⟨rfl, hb⟩
    exact ⟨rfl, hb⟩
set_option maxRecDepth 100000 in
theorem refSeek_any (w : World) (a : Option Addr) (n c : Nat) (L : List En) (k : Nat) (key : ByteArray) (hs : ES entE w a L) (hn : L.length = n) (hl : n ≤ 60000) :
    Calls Tryd.prog 17 #[.agg #[.slice a n c, .int .i64 k], .string key] w fun e w' => e = .returned (.agg #[.slice a n c, .int .i64 (fE L key : Nat)]) ∧ Below w.heap.size w w' := by
  obtain ⟨W1, hW1, h1, hb1⟩ := alloc_own w RCT #[.slice a n c, .int .i64 k]
  obtain ⟨W2, hW2, h2, hb2⟩ := alloc_own W1 RCT #[.slice none 0 0, .int .i64 0]
  have z1 : W1.heap.size = w.heap.size + 1 := by rw [← hW1]; simp
  rw [z1] at h2
  have k1 : RCur W2 w.heap.size a n c k := (show RCur W1 w.heap.size a n c k from h1).ext hb2
  have k2 : RCur W2 (w.heap.size + 1) none 0 0 0 := h2
  have hbw := hb1.trans (hb2.mono hb1.size)
  have Hat := Lib.hid (refAt_any a n c L key W2 hn (hs.below hbw (Nat.le_refl _)) (by omega))
  generalize fE L key = F at *
  generalize isE L key = I at *
  have t0 := k1.c0
  have t1 := k1.c1
  have HW : Hid ((w.alloc (.cells #[.slice a n c, .int .i64 k] RCT)).alloc (.cells #[.slice none 0 0, .int .i64 0] RCT) = W2) := by show _ = _; rw [hW1, hW2]
  rw [← hW2, ← hW1] at t0 t1
  have K1 := Lib.hid (And.intro k1 (And.intro k2 hbw))
  clear hs hn hW1 h1 hb1 hW2 h2 hb2 z1 k1 k2 hbw
  go_enter Tryd.func17, Tryd.ntmps17
  go_wp2_with fail
  rw [HW.out]
  refine Hat.out.mono ?_
  rintro e w3 ⟨rfl, hb3⟩
  have q1 := K1.out.1.ext hb3
  have q2 := K1.out.2.1.ext hb3
  have x0 := q1.c0
  have x1 := q1.c1
  have y0 := q2.fz 0
  have y1 := q2.fz 1
  have y2 := q2.c0
  have y3 := q2.c1
  have p0 := (q2.put a n c F).c0
  have p1 := (q2.put a n c F).c1
  have Hfin : Hid (Below w.heap.size w ((w3.setCell ⟨w.heap.size + 1, 0, none⟩ (.slice a n c)).setCell ⟨w.heap.size + 1, 1, none⟩ (.int .i64 F))) := below_put (K1.out.2.2.trans (hb3.mono K1.out.2.2.size)) (by omega)
  clear q1 q2 hb3 Hat t0 t1
  go_wp2_with fail
  refine bodyPost_ret (v := _) (by rw [results_cell_one rfl]; go_simp) rfl ⟨rfl, Hfin.out⟩
set_option maxRecDepth 100000 in
theorem refCNew_any (w : World) (a : Option Addr) (n c : Nat) (es : List En) (s : Sp) (hs : ES entE w a es) (hn : es.length = n) (hok : ∀ e ∈ es, okE e) (hl : n ≤ 60000) :
    Calls Tryd.prog 15 #[.slice a n c, s.v] w fun e w' => ∃ u, e = .returned (.agg #[u, .int .i64 0]) ∧ EV entE w' u (inS s es) ∧ Below w.heap.size w w' := by
  obtain ⟨W1, hW1, h1, hb1⟩ := alloc_own w RSP #[.string s.lo, .string s.hi, .bool s.op]
  obtain ⟨W2, hW2, h2, hb2⟩ := alloc_own W1 RCT #[.slice none 0 0, .int .i64 0]
  have z1 : W1.heap.size = w.heap.size + 1 := by rw [← hW1]; simp
  rw [z1] at h2
  have k1 : SpIn W2 w.heap.size RSP s := (show SpIn W1 w.heap.size RSP s from h1).ext hb2
  have k2 : RCur W2 (w.heap.size + 1) none 0 0 0 := h2
  have hbw := hb1.trans (hb2.mono hb1.size)
  have hrow := refRows_any a n c es s n false W2 hn (hs.below hbw (Nat.le_refl _)) hok hl (by omega)
  have hw : rowsL s es n false = inS s es := by
    unfold rowsL turnB
    rw [if_neg (by decide), List.take_of_length_le]
    have := inS_len s es
    omega
  rw [hw] at hrow
  obtain ⟨DM, hDM⟩ : ∃ DM, rowsM s es n = DM := ⟨_, rfl⟩
  rw [hDM] at hrow
  have Hrow := Lib.hid hrow
  have t0 := k1.c0
  have t1 := k1.c1
  have t2 := k1.c2
  have HW : Hid ((w.alloc (.cells #[.string s.lo, .string s.hi, .bool s.op] RSP)).alloc (.cells #[.slice none 0 0, .int .i64 0] RCT) = W2) := by show _ = _; rw [hW1, hW2]
  rw [← hW2, ← hW1] at t0 t1 t2
  have K1 := Lib.hid (And.intro k2 hbw)
  unfold Sp.v at Hrow ⊢
  clear hs hn hok hW1 h1 hb1 hW2 h2 hb2 z1 k1 k2 hbw hrow hw hDM
  go_enter Tryd.func15, Tryd.ntmps15
  go_wp2_with fail
  rw [HW.out]
  refine Hrow.out.mono ?_
  rintro e w3 ⟨u, rfl, hev, hb3⟩
  obtain ⟨a3, n3, c3, rfl, hls, hlN, hlc⟩ := ev_ct hev
  have q2 := K1.out.1.ext hb3
  have y0 := q2.fz 0
  have y1 := q2.fz 1
  have y2 := q2.c0
  have y3 := q2.c1
  have p0 := (q2.put a3 n3 c3 0).c0
  have p1 := (q2.put a3 n3 c3 0).c1
  have hF : TF w3 (fun i => i = w.heap.size + 1) := q2.tf
  have Hfin : Hid (EV entE ((w3.setCell ⟨w.heap.size + 1, 0, none⟩ (.slice a3 n3 c3)).setCell ⟨w.heap.size + 1, 1, none⟩ (.int .i64 0)) (.slice a3 n3 c3) (inS s es) ∧ Below w.heap.size w ((w3.setCell ⟨w.heap.size + 1, 0, none⟩ (.slice a3 n3 c3)).setCell ⟨w.heap.size + 1, 1, none⟩ (.int .i64 0))) :=
    ⟨hev.turn entE_str (turn_put _ _ _ _) hF, below_put (K1.out.2.trans (hb3.mono K1.out.2.size)) (by omega)⟩
  clear q2 hb3 hev hls hlN hlc hF Hrow t0 t1 t2
  go_wp2_with fail
  refine bodyPost_ret (v := _) (by rw [results_cell_one rfl]; go_simp) rfl ⟨_, rfl, Hfin.out.1, Hfin.out.2⟩
end Go.Proofs.YtggibbgohhpfpaaDoor
