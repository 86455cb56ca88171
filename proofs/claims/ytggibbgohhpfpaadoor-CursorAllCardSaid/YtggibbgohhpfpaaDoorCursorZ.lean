/-
  cursor's Next, Prev, End, Copy.
  cursor's Next and Prev of a cursor that there is.
  sort.Search with any closure that tells whether a place is reached; cursor's Seek.
  cursor's New.
-/
import Derived.Test.YtggibbgohhpfpaaDoorLawTreeZ
import Derived.Test.YtggibbgohhpfpaaDoorBlocksZ
import Derived.Test.YtggibbgohhpfpaaDoorTurnZ
import Derived.Laws.ResultCell
import Derived.Test.YtggibbgohhpfpaaDoorGsZ
import Derived.Shelf.GgClosure.Gives
import Derived.Test.YtggibbgohhpfpaaDoorCRowsZ
namespace Go.Proofs.YtggibbgohhpfpaaDoor
open Go Go.RowKit

abbrev CURT : TypeId := 61
/-- A block that holds a cursor. -/
def Cur (w : World) (b : Nat) (a : Option Addr) (n c k : Nat) : Prop := w.heap[b]? = some (.cells #[.slice a n c, .int .i64 k] CURT (0, 0))
section
variable {w : World} {b : Nat} {a : Option Addr} {n c k : Nat}
theorem Cur.c0 (h : Cur w b a n c k) : w.cell? ⟨b, 0, none⟩ = some (.slice a n c) := by
  have h' : w.heap[b]? = _ := h
  simp [World.cell?, h']
theorem Cur.c1 (h : Cur w b a n c k) : w.cell? ⟨b, 1, none⟩ = some (.int .i64 k) := by
  have h' : w.heap[b]? = _ := h
  simp [World.cell?, h']
theorem Cur.fz (h : Cur w b a n c k) (j : Nat) : w.frozen? ⟨b, j, none⟩ = false := by
  have h' : w.heap[b]? = _ := h
  simp [World.frozen?, h']
theorem Cur.lt (h : Cur w b a n c k) : b < w.heap.size := (Array.getElem?_eq_some_iff.1 h).1
theorem Cur.ext {w' : World} (h : Cur w b a n c k) (hb : Below w.heap.size w w') : Cur w' b a n c k := (hb.block b h.lt).trans h
theorem Cur.put (h : Cur w b a n c k) (m : Nat) : Cur (w.setCell ⟨b, 1, none⟩ (.int .i64 m)) b a n c m := heap_setCell_same w b 1 _ _ _ h
theorem Cur.tf (h : Cur w b a n c k) : TF w (fun i => i = b) := TF.var (h : w.heap[b]? = _)
end
/-- A cursor, and what it goes through. -/
structure CurQ (w : World) (b : Nat) (a : Option Addr) (n c : Nat) (L : List En) (k : Nat) : Prop where
  at_ : Cur w b a n c k
  s : ES entE w a L
  hn : L.length = n
  hk : k ≤ n
  hl : n ≤ 60000
  hc : n ≤ c
section
variable {w w' : World} {b : Nat} {a : Option Addr} {n c k : Nat} {L : List En}
theorem CurQ.ext (h : CurQ w b a n c L k) (hb : Below w.heap.size w w') : CurQ w' b a n c L k := ⟨h.at_.ext hb, h.s.below hb (Nat.le_refl _), h.hn, h.hk, h.hl, h.hc⟩
theorem CurQ.turn {F : Nat → Prop} (h : CurQ w b a n c L k) (t : Turn F w w') (hF : TF w F) (hb : ¬ F b) : CurQ w' b a n c L k := ⟨t.hg h.at_ hb, h.s.turn entE_str t hF, h.hn, h.hk, h.hl, h.hc⟩
theorem CurQ.own (h : CurQ w b a n c L k) (t : Turn (fun i => i = b) w w') {m : Nat} (hm : m ≤ n) (h2 : Cur w' b a n c m) : CurQ w' b a n c L m := ⟨h2, h.s.turn entE_str t h.at_.tf, h.hn, hm, h.hl, h.hc⟩
theorem CurQ.put (h : CurQ w b a n c L k) {m : Nat} (hm : m ≤ n) : CurQ (w.setCell ⟨b, 1, none⟩ (.int .i64 m)) b a n c L m :=
  h.own ((Turn.refl _ w).setCell (p := ⟨b, 1, none⟩) _ (fun _ => rfl)) hm (h.at_.put m)
theorem turn_one (w : World) (b j : Nat) (v : Value) : Turn (fun i => i = b) w (w.setCell ⟨b, j, none⟩ v) := (Turn.refl _ w).setCell (p := ⟨b, j, none⟩) _ (fun _ => rfl)
end
theorem ea_end (L : List En) : ea L L.length = E0 := by unfold ea; simp; rfl
/-- A new block for what is answered. -/
theorem alloc_ent (w : World) : ∃ W, w.alloc (.cells #[.string ⟨#[]⟩, .string ⟨#[]⟩] ET) = W ∧ EB W w.heap.size E0 ∧ Below w.heap.size w W := by
  obtain ⟨W, hW, h, hb⟩ := alloc_own w ET #[.string ⟨#[]⟩, .string ⟨#[]⟩]
  exact ⟨W, hW, h, hb⟩
set_option maxRecDepth 100000 in
theorem next_nil (w : World) : Calls Tryd.prog 8 #[.pointer none] w fun e w' => e = .returned (.tuple #[.agg #[.string ⟨#[]⟩, .string ⟨#[]⟩], .bool false]) ∧ Below w.heap.size w w' := by
  obtain ⟨W, hW, hn, hb⟩ := alloc_ent w
  obtain ⟨W2, hW2⟩ : ∃ W2, W.drew = W2 := ⟨_, rfl⟩
  have hn2 : EB W2 w.heap.size E0 := by rw [← hW2]; exact hn
  have hb2 : Below w.heap.size w W2 := by rw [← hW2]; exact hb.drew
  have r0 := hn2.c0
  have r1 := hn2.c1
  have f0 := hn2.fz 0
  have f1 := hn2.fz 1
  have y0 := (hn2.put E0).c0
  have y1 := (hn2.put E0).c1
  simp only [E0] at r0 r1 y0 y1
  have HW := Lib.hid hW
  have HW2 := Lib.hid hW2
  have Hb : Hid (Below w.heap.size w ((W2.setCell ⟨w.heap.size, 0, none⟩ (.string ⟨#[]⟩)).setCell ⟨w.heap.size, 1, none⟩ (.string ⟨#[]⟩))) := below_put hb2 (Nat.le_refl _)
  clear hW hn hb hW2 hn2 hb2
  go_enter Tryd.func8, Tryd.ntmps8
  go_wp2_with fail
  refine wp_region_gr [(0, true), (1, true), (2, true), (3, true), (4, true), (5, true), (6, true), (7, true), (8, true), (9, true), (10, true), (11, true), (12, true), (13, true)] (by kernel_rfl) (by kernel_rfl) (by kernel_rfl) (by kernel_rfl) (fun _ _ _ _ _ h => h) ?_
  rw [HW.out, HW2.out]
  iterate 14 (first | (refine wpGr_read (o := ⟨_, _, _, _, _, _⟩) (v := ?_) rfl (by rfl) ?_ ?_; rotate_left; (intro w' hw'; go_simp; with_reducible rfl); simp only [Act.put, List.setIfInBounds_toArray, List.set_cons_zero, List.set_cons_succ]) | (refine wpGr_skip (o := ⟨_, _, _, _, _, _⟩) rfl (by rfl) ?_; simp only [Act.put, List.setIfInBounds_toArray, List.set_cons_zero, List.set_cons_succ]))
  refine wpGr_done ?_
  go_wp2_with fail
  refine bodyPost_ret (v := _) (by rw [results_cell_tmp rfl]; go_simp) rfl ⟨rfl, Hb.out⟩
set_option maxRecDepth 100000 in
theorem prev_nil (w : World) : Calls Tryd.prog 9 #[.pointer none] w fun e w' => e = .returned (.tuple #[.agg #[.string ⟨#[]⟩, .string ⟨#[]⟩], .bool false]) ∧ Below w.heap.size w w' := by
  obtain ⟨W2, hW2, hn2, hb2⟩ := alloc_ent w
  have r0 := hn2.c0
  have r1 := hn2.c1
  have f0 := hn2.fz 0
  have f1 := hn2.fz 1
  simp only [E0] at r0 r1
  have Hb := Lib.hid hb2
  have HW2 := Lib.hid hW2
  clear hW2 hn2 hb2
  go_enter Tryd.func9, Tryd.ntmps9
  go_wp2_with fail
  refine bodyPost_ret (v := _) (by rw [results_cell_tmp rfl]; go_simp) rfl ⟨rfl, ?_⟩
  rw [HW2.out]; exact Hb.out
theorem seek_nil (w : World) (key : ByteArray) : Calls Tryd.prog 6 #[.pointer none, .string key] w fun e w' => e = .returned (.tuple #[]) ∧ Below w.heap.size w w' := by
  have hb : ∀ o1 o2, Below w.heap.size w ((w.alloc o1).alloc o2) := fun o1 o2 => two_below w o1 o2
  have Hb := Lib.hid hb
  clear hb
  go_enter Tryd.func6, Tryd.ntmps6
  go_wp2_with fail
  go_end0
  exact ⟨rfl, Hb.out _ _⟩
theorem end_nil (w : World) : Calls Tryd.prog 7 #[.pointer none] w fun e w' => e = .returned (.tuple #[]) ∧ w = w' := by
  go_enter Tryd.func7, Tryd.ntmps7
  go_wp2_with fail
  go_end0
  exact ⟨rfl, rfl⟩
theorem ccopy_nil (w : World) : Calls Tryd.prog 10 #[.pointer none] w fun e w' => e = .returned (.pointer none) ∧ w = w' := by
  go_enter Tryd.func10, Tryd.ntmps10
  go_wp2_with fail
  go_ret
  exact ⟨rfl, rfl⟩
set_option maxRecDepth 100000 in
theorem end_at (w : World) (b : Nat) (a : Option Addr) (n c : Nat) (L : List En) (k : Nat) (h : CurQ w b a n c L k) :
    Calls Tryd.prog 7 #[.pointer (some ⟨b, 0, none⟩)] w fun e w' => e = .returned (.tuple #[]) ∧ CurQ w' b a n c L n ∧ Turn (fun i => i = b) w w' := by
  have c0 := h.at_.c0
  have c1 := h.at_.c1
  have f1 := h.at_.fz 1
  have H := Lib.hid h
  clear h
  go_enter Tryd.func7, Tryd.ntmps7
  go_wp2_with fail
  go_end0
  exact ⟨rfl, H.out.put (Nat.le_refl _), turn_one _ _ _ _⟩
set_option maxRecDepth 100000 in
theorem ccopy_any (w : World) (b : Nat) (a : Option Addr) (n c : Nat) (L : List En) (k : Nat) (h : CurQ w b a n c L k) :
    Calls Tryd.prog 10 #[.pointer (some ⟨b, 0, none⟩)] w fun e w' => ∃ b2, e = .returned (.pointer (some ⟨b2, 0, none⟩)) ∧ w.heap.size ≤ b2 ∧ CurQ w' b2 a n c L k ∧ Below w.heap.size w w' := by
  have c0 := h.at_.c0
  have c1 := h.at_.c1
  obtain ⟨W, hW, hn, hb⟩ := alloc_own w CURT #[.slice a n c, .int .i64 k]
  have hq : CurQ W w.heap.size a n c L k := ⟨hn, h.s.below hb (Nat.le_refl _), h.hn, h.hk, h.hl, h.hc⟩
  have HW := Lib.hid hW
  have HQ := Lib.hid (And.intro hq hb)
  clear h hW hn hb hq
  go_enter Tryd.func10, Tryd.ntmps10
  go_wp2_with fail
  go_ret
  rw [HW.out]
  exact ⟨_, rfl, Nat.le_refl _, HQ.out.1, HQ.out.2⟩
end Go.Proofs.YtggibbgohhpfpaaDoor
namespace Go.Proofs.YtggibbgohhpfpaaDoor
open Go Go.RowKit

/-- What Prev tells, and whether there is one. -/
def prevE (L : List En) (k : Nat) : En := if k = 0 then E0 else ea L (k - 1)
def nextK (n k : Nat) : Nat := if k < n then k + 1 else k
theorem nextK_le {n k : Nat} (h : k ≤ n) : nextK n k ≤ n := by unfold nextK; split <;> omega
set_option maxRecDepth 100000 in
theorem next_at (w : World) (b : Nat) (a : Option Addr) (n c : Nat) (L : List En) (k : Nat) (h : CurQ w b a n c L k) (hk : k < n) :
    Calls Tryd.prog 8 #[.pointer (some ⟨b, 0, none⟩)] w fun e w' => e = .returned (.tuple #[.agg #[.string (ea L k).k, .string (ea L k).v], .bool true]) ∧ CurQ w' b a n c L (k + 1) ∧ Turn (fun i => i = b) w w' := by
  have hl := h.hl
  have hn := h.hn
  obtain ⟨W1, hW1, hn1, hb1⟩ := alloc_ent w
  obtain ⟨W2, hW2⟩ : ∃ W2, W1.drew = W2 := ⟨_, rfl⟩
  have hbd : Below W1.heap.size W1 W2 := by rw [← hW2]; exact (Below.refl _ _).drew
  have hb2 : Below w.heap.size w W2 := hb1.trans (hbd.mono hb1.size)
  have q2 := h.ext hb2
  have e2 := hn1.ext hbd
  obtain ⟨rb, hrb⟩ : ∃ rb, w.heap.size = rb := ⟨_, rfl⟩
  rw [hrb] at e2
  have hne : b ≠ rb := by have := h.at_.lt; omega
  have c0 : ∀ w', Ext W2 w' → w'.cell? ⟨b, 0, none⟩ = some (.slice a n c) := fun w' hx => (q2.ext hx).at_.c0
  have c1 : ∀ w', Ext W2 w' → w'.cell? ⟨b, 1, none⟩ = some (.int .i64 k) := fun w' hx => (q2.ext hx).at_.c1
  have c1' := q2.at_.c1
  have f1' := q2.at_.fz 1
  obtain ⟨K1, hK1⟩ : ∃ K1, k + 1 = K1 := ⟨_, rfl⟩
  have z1 : (k : Int) + 1 = (K1 : Int) := by omega
  have z2 : (K1 : Int) - 1 = (k : Int) := by omega
  have z3 : IntKind.i64.wrap (K1 : Int) = (K1 : Int) := by rw [IntKind.wrap_i64]; omega
  have z4 : IntKind.i64.wrap (k : Int) = (k : Int) := by rw [IntKind.wrap_i64]; omega
  have d1 : ((k : Int) == (n : Int)) = false := by rw [beq_eq_false_iff_ne]; omega
  have d2 : (k == n) = false := by rw [beq_eq_false_iff_ne]; omega
  obtain ⟨W3, hW3⟩ : ∃ W3, W2.setCell ⟨b, 1, none⟩ (.int .i64 K1) = W3 := ⟨_, rfl⟩
  have t3 : Turn (fun i => i = b) W2 W3 := by rw [← hW3]; exact turn_one _ _ _ _
  have q3 : CurQ W3 b a n c L K1 := by rw [← hW3]; exact q2.put (by omega)
  have e3 : EB W3 rb E0 := t3.hg e2 (fun e => hne e.symm)
  obtain ⟨W4, hW4⟩ : ∃ W4, W3.drew = W4 := ⟨_, rfl⟩
  have hbd4 : Below W3.heap.size W3 W4 := by rw [← hW4]; exact (Below.refl _ _).drew
  have q4 := q3.ext hbd4
  have e4 := e3.ext hbd4
  have t4 : Turn (fun i => i = b) w W4 := ((Turn.ofBelow hb2).step t3 (fun _ h _ => h)).step (Turn.ofBelow (F := fun i => i = b) hbd4) (fun _ h _ => h)
  obtain ⟨g, o, ea1, hcell⟩ := q4.s.ents (by rw [hn]; omega)
  have hc := hcell k (by omega)
  have hg : g < w.heap.size := by
    obtain ⟨g', o', ea2, hcell2⟩ := h.s.ents (by rw [hn]; omega)
    rw [ea1] at ea2
    injection ea2 with ea2
    injection ea2 with e1 _ _
    rw [e1]
    exact block_lt_of_cell (hcell2 k (by omega)).1
  have hgr : g ≠ rb := by omega
  subst ea1
  have u0 : ∀ w', Turn (fun i => i = rb) W4 w' → w'.cell? ⟨b, 0, none⟩ = some (.slice (some ⟨g, o, none⟩) n c) := fun w' t => by
    rw [t.cell (p := ⟨b, 0, none⟩) q4.at_.lt hne]; exact q4.at_.c0
  have u1 : ∀ w', Turn (fun i => i = rb) W4 w' → w'.cell? ⟨b, 1, none⟩ = some (.int .i64 K1) := fun w' t => by
    rw [t.cell (p := ⟨b, 1, none⟩) q4.at_.lt hne]; exact q4.at_.c1
  have u2 : ∀ w', Turn (fun i => i = rb) W4 w' → w'.cell? ⟨g, o + k * 2, none⟩ = some (.string (ea L k).k) := fun w' t => by
    rw [t.cell (p := ⟨g, o + k * 2, none⟩) (block_lt_of_cell hc.1) hgr]; exact hc.1
  have u3 : ∀ w', Turn (fun i => i = rb) W4 w' → w'.cell? ⟨g, o + k * 2 + 1, none⟩ = some (.string (ea L k).v) := fun w' t => by
    rw [t.cell (p := ⟨g, o + k * 2 + 1, none⟩) (block_lt_of_cell hc.2) hgr]; exact hc.2
  have r0 := e4.c0
  have r1 := e4.c1
  have g0 := e4.fz 0
  have g1 := e4.fz 1
  simp only [E0] at r0 r1
  obtain ⟨x, hx⟩ : ∃ x, ea L k = x := ⟨_, rfl⟩
  rw [hx] at u2 u3
  rw [hx]
  have p0 := (e4.put x).c0
  have p1 := (e4.put x).c1
  have tp := turn_put W4 rb (.string x.k) (.string x.v)
  have htf : Turn (fun i => i = b) w ((W4.setCell ⟨rb, 0, none⟩ (.string x.k)).setCell ⟨rb, 1, none⟩ (.string x.v)) := t4.step tp (fun i hi hl => by omega)
  have hcf : Cur ((W4.setCell ⟨rb, 0, none⟩ (.string x.k)).setCell ⟨rb, 1, none⟩ (.string x.v)) b (some ⟨g, o, none⟩) n c K1 := tp.hg q4.at_ hne
  have Hfin : Hid (CurQ ((W4.setCell ⟨rb, 0, none⟩ (.string x.k)).setCell ⟨rb, 1, none⟩ (.string x.v)) b (some ⟨g, o, none⟩) n c L K1 ∧ Turn (fun i => i = b) w ((W4.setCell ⟨rb, 0, none⟩ (.string x.k)).setCell ⟨rb, 1, none⟩ (.string x.v))) := ⟨h.own htf (by omega) hcf, htf⟩
  have HW1 := Lib.hid (And.intro hW1 hW2)
  have HW3 := Lib.hid (And.intro hW3 hW4)
  have Hrb := Lib.hid hrb
  have i0 : (0 : Int) ≤ (k : Int) := by omega
  have i1 : (k : Int) < (n : Int) := by omega
  have HK := Lib.hid hK1
  obtain ⟨xk, xv⟩ := x
  dsimp only at u2 u3 p0 p1
  clear h hn hW1 hn1 hb1 hW2 hbd hb2 q2 e2 hrb hne hW3 t3 q3 e3 hW4 hbd4 q4 e4 t4 hcell hc hg hgr hx tp htf hcf hK1
  go_enter Tryd.func8, Tryd.ntmps8
  go_wp2_with fail
  refine wp_region_gr [(0, true), (1, true), (2, true), (3, true), (4, true), (5, true), (6, true), (7, true), (8, true), (9, true), (10, true), (11, true), (12, true), (13, true)] (by kernel_rfl) (by kernel_rfl) (by kernel_rfl) (by kernel_rfl) (fun _ _ _ _ _ h => h) ?_
  rw [HW1.out.1, HW1.out.2, Hrb.out]
  iterate 14 (first | (refine wpGr_read (o := ⟨_, _, _, _, _, _⟩) (v := ?_) rfl (by rfl) ?_ ?_; rotate_left; (intro w' hw'; go_simp; with_reducible rfl); simp only [Act.put, List.setIfInBounds_toArray, List.set_cons_zero, List.set_cons_succ]) | (refine wpGr_skip (o := ⟨_, _, _, _, _, _⟩) rfl (by rfl) ?_; simp only [Act.put, List.setIfInBounds_toArray, List.set_cons_zero, List.set_cons_succ]))
  refine wpGr_done ?_
  clear c0 c1
  go_wp2_with fail
  refine wp_region_gx (fun i => i = rb) (.rd 0 (.rd 1 (.rd 2 (.rd 3 (.rd 4 (.rd 5 (.rd 6 (.rd 7 (.rd 8 (.rd 9 (.rd 10 (.call 11 (.rd 12 .done))))))))))))) (by kernel_rfl) (by kernel_rfl) (by kernel_rfl) (by kernel_rfl) (fun _ _ _ _ _ h => h) ?_
  rw [HW3.out.1, HW3.out.2]
  iterate 11 (refine wpGx_read (o := ⟨_, _, _, _, _, _⟩) (v := ?_) rfl (by rfl) ?_ ?_; rotate_left; (intro w' hw'; go_simp; with_reducible rfl); simp only [Act.put, List.setIfInBounds_toArray, List.set_cons_zero, List.set_cons_succ])
  refine stepX_call (o := ⟨_, _, _, _, _, _⟩) rfl (by rfl) (fun K hK => ?_)
  go_simp
  refine hK (fun _ => False) (fun _ h => h.elim) _ _ (turn_put _ _ _ _) ?_
  clear hK K r0 r1 g0 g1 u0 u1 u2 u3
  iterate 1 (refine wpGx_read (o := ⟨_, _, _, _, _, _⟩) (v := ?_) rfl (by rfl) ?_ ?_; rotate_left; (intro w' hw'; go_simp; with_reducible rfl); simp only [Act.put, List.setIfInBounds_toArray, List.set_cons_zero, List.set_cons_succ])
  refine wpGx_done ?_
  go_wp2_with fail
  refine bodyPost_ret (v := _) (by rw [results_cell_tmp rfl]; go_simp) rfl ⟨rfl, ?_⟩
  rw [HK.out]; exact Hfin.out
set_option maxRecDepth 100000 in
theorem prev_at (w : World) (b : Nat) (a : Option Addr) (n c : Nat) (L : List En) (k : Nat) (h : CurQ w b a n c L k) (hk : 0 < k) :
    Calls Tryd.prog 9 #[.pointer (some ⟨b, 0, none⟩)] w fun e w' => e = .returned (.tuple #[.agg #[.string (ea L (k - 1)).k, .string (ea L (k - 1)).v], .bool true]) ∧ CurQ w' b a n c L (k - 1) ∧ Turn (fun i => i = b) w w' := by
  have hl := h.hl
  have hn := h.hn
  obtain ⟨W1, hW1, hn1, hb1⟩ := alloc_ent w
  obtain ⟨W2, hW2⟩ : ∃ W2, W1 = W2 := ⟨_, rfl⟩
  have hbd : Below W1.heap.size W1 W2 := by rw [← hW2]; exact Below.refl _ _
  have hb2 : Below w.heap.size w W2 := hb1.trans (hbd.mono hb1.size)
  have q2 := h.ext hb2
  have e2 := hn1.ext hbd
  obtain ⟨rb, hrb⟩ : ∃ rb, w.heap.size = rb := ⟨_, rfl⟩
  rw [hrb] at e2
  have hne : b ≠ rb := by have := h.at_.lt; omega
  have c1' := q2.at_.c1
  have f1' := q2.at_.fz 1
  rw [← hW2, ← hW1] at c1' f1'
  obtain ⟨K1, hK1⟩ : ∃ K1, k - 1 = K1 := ⟨_, rfl⟩
  have hkn := h.hk
  have z1 : (k : Int) - 1 = (K1 : Int) := by omega
  have z3 : IntKind.i64.wrap (K1 : Int) = (K1 : Int) := by rw [IntKind.wrap_i64]; omega
  have z4 : IntKind.i64.wrap (k : Int) = (k : Int) := by rw [IntKind.wrap_i64]; omega
  have d1 : ((k : Int) == 0) = false := by rw [beq_eq_false_iff_ne]; omega
  have d2 : (k == 0) = false := by rw [beq_eq_false_iff_ne]; omega
  obtain ⟨W3, hW3⟩ : ∃ W3, W2.setCell ⟨b, 1, none⟩ (.int .i64 K1) = W3 := ⟨_, rfl⟩
  have t3 : Turn (fun i => i = b) W2 W3 := by rw [← hW3]; exact turn_one _ _ _ _
  have q3 : CurQ W3 b a n c L K1 := by rw [← hW3]; exact q2.put (by omega)
  have e3 : EB W3 rb E0 := t3.hg e2 (fun e => hne e.symm)
  obtain ⟨W4, hW4⟩ : ∃ W4, W3.drew = W4 := ⟨_, rfl⟩
  have hbd4 : Below W3.heap.size W3 W4 := by rw [← hW4]; exact (Below.refl _ _).drew
  have q4 := q3.ext hbd4
  have e4 := e3.ext hbd4
  have t4 : Turn (fun i => i = b) w W4 := ((Turn.ofBelow hb2).step t3 (fun _ h _ => h)).step (Turn.ofBelow (F := fun i => i = b) hbd4) (fun _ h _ => h)
  obtain ⟨g, o, ea1, hcell⟩ := q4.s.ents (by rw [hn]; omega)
  have hc := hcell K1 (by omega)
  have hg : g < w.heap.size := by
    obtain ⟨g', o', ea2, hcell2⟩ := h.s.ents (by rw [hn]; omega)
    rw [ea1] at ea2
    injection ea2 with ea2
    injection ea2 with e1 _ _
    rw [e1]
    exact block_lt_of_cell (hcell2 K1 (by omega)).1
  have hgr : g ≠ rb := by omega
  subst ea1
  have u0 : ∀ w', Turn (fun i => i = rb) W4 w' → w'.cell? ⟨b, 0, none⟩ = some (.slice (some ⟨g, o, none⟩) n c) := fun w' t => by
    rw [t.cell (p := ⟨b, 0, none⟩) q4.at_.lt hne]; exact q4.at_.c0
  have u1 : ∀ w', Turn (fun i => i = rb) W4 w' → w'.cell? ⟨b, 1, none⟩ = some (.int .i64 K1) := fun w' t => by
    rw [t.cell (p := ⟨b, 1, none⟩) q4.at_.lt hne]; exact q4.at_.c1
  have u2 : ∀ w', Turn (fun i => i = rb) W4 w' → w'.cell? ⟨g, o + K1 * 2, none⟩ = some (.string (ea L K1).k) := fun w' t => by
    rw [t.cell (p := ⟨g, o + K1 * 2, none⟩) (block_lt_of_cell hc.1) hgr]; exact hc.1
  have u3 : ∀ w', Turn (fun i => i = rb) W4 w' → w'.cell? ⟨g, o + K1 * 2 + 1, none⟩ = some (.string (ea L K1).v) := fun w' t => by
    rw [t.cell (p := ⟨g, o + K1 * 2 + 1, none⟩) (block_lt_of_cell hc.2) hgr]; exact hc.2
  have r0 := e4.c0
  have r1 := e4.c1
  have g0 := e4.fz 0
  have g1 := e4.fz 1
  simp only [E0] at r0 r1
  obtain ⟨x, hx⟩ : ∃ x, ea L K1 = x := ⟨_, rfl⟩
  rw [hx] at u2 u3
  rw [hK1, hx]
  have p0 := (e4.put x).c0
  have p1 := (e4.put x).c1
  have tp := turn_put W4 rb (.string x.k) (.string x.v)
  have htf : Turn (fun i => i = b) w ((W4.setCell ⟨rb, 0, none⟩ (.string x.k)).setCell ⟨rb, 1, none⟩ (.string x.v)) := t4.step tp (fun i hi hl => by omega)
  have hcf : Cur ((W4.setCell ⟨rb, 0, none⟩ (.string x.k)).setCell ⟨rb, 1, none⟩ (.string x.v)) b (some ⟨g, o, none⟩) n c K1 := tp.hg q4.at_ hne
  have Hfin : Hid (CurQ ((W4.setCell ⟨rb, 0, none⟩ (.string x.k)).setCell ⟨rb, 1, none⟩ (.string x.v)) b (some ⟨g, o, none⟩) n c L K1 ∧ Turn (fun i => i = b) w ((W4.setCell ⟨rb, 0, none⟩ (.string x.k)).setCell ⟨rb, 1, none⟩ (.string x.v))) := ⟨h.own htf (by omega) hcf, htf⟩
  have HW1 := Lib.hid (And.intro hW1 hW2)
  have HW3 := Lib.hid (And.intro hW3 hW4)
  have Hrb := Lib.hid hrb
  have i0 : (0 : Int) ≤ (K1 : Int) := by omega
  have i1 : (K1 : Int) < (n : Int) := by omega
  obtain ⟨xk, xv⟩ := x
  dsimp only at u2 u3 p0 p1
  clear h hn hW1 hn1 hb1 hW2 hbd hb2 q2 e2 hrb hne hW3 t3 q3 e3 hW4 hbd4 q4 e4 t4 hcell hc hg hgr hx tp htf hcf hK1
  go_enter Tryd.func9, Tryd.ntmps9
  go_wp2_with fail
  refine wp_region_gx (fun i => i = rb) (.rd 0 (.rd 1 (.rd 2 (.rd 3 (.rd 4 (.rd 5 (.rd 6 (.rd 7 (.rd 8 (.rd 9 (.call 10 (.rd 11 .done)))))))))))) (by kernel_rfl) (by kernel_rfl) (by kernel_rfl) (by kernel_rfl) (fun _ _ _ _ _ h => h) ?_
  rw [HW1.out.1, HW1.out.2, HW3.out.1, HW3.out.2, Hrb.out]
  iterate 10 (refine wpGx_read (o := ⟨_, _, _, _, _, _⟩) (v := ?_) rfl (by rfl) ?_ ?_; rotate_left; (intro w' hw'; go_simp; with_reducible rfl); simp only [Act.put, List.setIfInBounds_toArray, List.set_cons_zero, List.set_cons_succ])
  refine stepX_call (o := ⟨_, _, _, _, _, _⟩) rfl (by rfl) (fun K hK => ?_)
  go_simp
  refine hK (fun _ => False) (fun _ h => h.elim) _ _ (turn_put _ _ _ _) ?_
  clear hK K r0 r1 g0 g1 u0 u1 u2 u3
  iterate 1 (refine wpGx_read (o := ⟨_, _, _, _, _, _⟩) (v := ?_) rfl (by rfl) ?_ ?_; rotate_left; (intro w' hw'; go_simp; with_reducible rfl); simp only [Act.put, List.setIfInBounds_toArray, List.set_cons_zero, List.set_cons_succ])
  refine wpGx_done ?_
  go_wp2_with fail
  refine bodyPost_ret (v := _) (by rw [results_cell_tmp rfl]; go_simp) rfl ⟨rfl, ?_⟩
  exact Hfin.out
set_option maxRecDepth 100000 in
theorem next_end (w : World) (b : Nat) (a : Option Addr) (n c : Nat) (L : List En) (h : CurQ w b a n c L n) :
    Calls Tryd.prog 8 #[.pointer (some ⟨b, 0, none⟩)] w fun e w' => e = .returned (.tuple #[.agg #[.string ⟨#[]⟩, .string ⟨#[]⟩], .bool false]) ∧ Below w.heap.size w w' := by
  have hl := h.hl
  obtain ⟨W1, hW1, hn1, hb1⟩ := alloc_ent w
  obtain ⟨W2, hW2⟩ : ∃ W2, W1.drew = W2 := ⟨_, rfl⟩
  have hbd : Below W1.heap.size W1 W2 := by rw [← hW2]; exact (Below.refl _ _).drew
  have hb2 : Below w.heap.size w W2 := hb1.trans (hbd.mono hb1.size)
  have q2 := h.ext hb2
  have e2 := hn1.ext hbd
  have c0 : ∀ w', Ext W2 w' → w'.cell? ⟨b, 0, none⟩ = some (.slice a n c) := fun w' hx => (q2.ext hx).at_.c0
  have c1 : ∀ w', Ext W2 w' → w'.cell? ⟨b, 1, none⟩ = some (.int .i64 n) := fun w' hx => (q2.ext hx).at_.c1
  have r0 := e2.c0
  have r1 := e2.c1
  have g0 := e2.fz 0
  have g1 := e2.fz 1
  have p0 := (e2.put E0).c0
  have p1 := (e2.put E0).c1
  simp only [E0] at r0 r1 p0 p1
  have z4 : IntKind.i64.wrap (n : Int) = (n : Int) := by rw [IntKind.wrap_i64]; omega
  have d1 : ((n : Int) == (n : Int)) = true := by simp
  have HW1 := Lib.hid (And.intro hW1 hW2)
  have Hb : Hid (Below w.heap.size w ((W2.setCell ⟨w.heap.size, 0, none⟩ (.string ⟨#[]⟩)).setCell ⟨w.heap.size, 1, none⟩ (.string ⟨#[]⟩))) := below_put hb2 (Nat.le_refl _)
  clear h hW1 hn1 hb1 hW2 hbd hb2 q2 e2
  go_enter Tryd.func8, Tryd.ntmps8
  go_wp2_with fail
  refine wp_region_gr [(0, true), (1, true), (2, true), (3, true), (4, true), (5, true), (6, true), (7, true), (8, true), (9, true), (10, true), (11, true), (12, true), (13, true)] (by kernel_rfl) (by kernel_rfl) (by kernel_rfl) (by kernel_rfl) (fun _ _ _ _ _ h => h) ?_
  rw [HW1.out.1, HW1.out.2]
  iterate 14 (first | (refine wpGr_read (o := ⟨_, _, _, _, _, _⟩) (v := ?_) rfl (by rfl) ?_ ?_; rotate_left; (intro w' hw'; go_simp; with_reducible rfl); simp only [Act.put, List.setIfInBounds_toArray, List.set_cons_zero, List.set_cons_succ]) | (refine wpGr_skip (o := ⟨_, _, _, _, _, _⟩) rfl (by rfl) ?_; simp only [Act.put, List.setIfInBounds_toArray, List.set_cons_zero, List.set_cons_succ]))
  refine wpGr_done ?_
  clear c0 c1
  go_wp2_with fail
  refine bodyPost_ret (v := _) (by rw [results_cell_tmp rfl]; go_simp) rfl ⟨rfl, Hb.out⟩
set_option maxRecDepth 100000 in
theorem prev_start (w : World) (b : Nat) (a : Option Addr) (n c : Nat) (L : List En) (h : CurQ w b a n c L 0) :
    Calls Tryd.prog 9 #[.pointer (some ⟨b, 0, none⟩)] w fun e w' => e = .returned (.tuple #[.agg #[.string ⟨#[]⟩, .string ⟨#[]⟩], .bool false]) ∧ Below w.heap.size w w' := by
  obtain ⟨W2, hW2, hn2, hb2⟩ := alloc_ent w
  have q2 := h.ext hb2
  have c1 := q2.at_.c1
  have r0 := hn2.c0
  have r1 := hn2.c1
  have f0 := hn2.fz 0
  have f1 := hn2.fz 1
  simp only [E0] at r0 r1
  rw [← hW2] at c1
  have Hb := Lib.hid hb2
  have HW2 := Lib.hid hW2
  clear h hW2 hn2 hb2 q2
  go_enter Tryd.func9, Tryd.ntmps9
  go_wp2_with fail
  refine bodyPost_ret (v := _) (by rw [results_cell_tmp rfl]; go_simp) rfl ⟨rfl, ?_⟩
  rw [HW2.out]; exact Hb.out
/-- Next, wherever it stands. -/
theorem next_any (w : World) (b : Nat) (a : Option Addr) (n c : Nat) (L : List En) (k : Nat) (h : CurQ w b a n c L k) :
    Calls Tryd.prog 8 #[.pointer (some ⟨b, 0, none⟩)] w fun e w' => e = .returned (.tuple #[.agg #[.string (ea L k).k, .string (ea L k).v], .bool (decide (k < n))]) ∧ CurQ w' b a n c L (nextK n k) ∧ Turn (fun i => i = b) w w' := by
  by_cases hk : k < n
  · refine (next_at w b a n c L k h hk).mono ?_
    rintro e w' ⟨rfl, hq, ht⟩
    refine ⟨by rw [decide_eq_true hk], ?_, ht⟩
    unfold nextK; rw [if_pos hk]; exact hq
  · obtain rfl : k = n := by have := h.hk; omega
    refine (next_end w b a k c L h).mono ?_
    rintro e w' ⟨rfl, hb⟩
    have e1 : ea L k = E0 := by rw [← h.hn]; exact ea_end L
    refine ⟨by rw [decide_eq_false hk, e1]; rfl, ?_, Turn.ofBelow hb⟩
    unfold nextK; rw [if_neg hk]; exact h.ext hb
/-- Prev, wherever it stands. -/
theorem prev_any (w : World) (b : Nat) (a : Option Addr) (n c : Nat) (L : List En) (k : Nat) (h : CurQ w b a n c L k) :
    Calls Tryd.prog 9 #[.pointer (some ⟨b, 0, none⟩)] w fun e w' => e = .returned (.tuple #[.agg #[.string (prevE L k).k, .string (prevE L k).v], .bool (decide (0 < k))]) ∧ CurQ w' b a n c L (k - 1) ∧ Turn (fun i => i = b) w w' := by
  by_cases hk : 0 < k
  · refine (prev_at w b a n c L k h hk).mono ?_
    rintro e w' ⟨rfl, hq, ht⟩
    refine ⟨?_, hq, ht⟩
    unfold prevE; rw [if_neg (by omega), decide_eq_true hk]
  · obtain rfl : k = 0 := by omega
    refine (prev_start w b a n c L h).mono ?_
    rintro e w' ⟨rfl, hb⟩
    exact ⟨rfl, h.ext hb, Turn.ofBelow hb⟩
end Go.Proofs.YtggibbgohhpfpaaDoor
namespace Go.Proofs.YtggibbgohhpfpaaDoor
open Go Go.RowKit Go.Shelf

set_option maxRecDepth 100000 in
/-- The first place of which a closure says yes. -/
theorem search_gen (w : World) (g : Nat) (caps : Array Value) (n F : Nat) (hl : n ≤ 100000) (hF : F ≤ n) (eg : ∀ args w, (callFunc g args).run Tryd.prog w = .ok (.enter g args) w)
    (hcall : ∀ (w' : World) (h : Nat), h < n → Below w.heap.size w w' → Calls Tryd.prog g (#[.int .i64 h] ++ caps) w' fun e w'' => e = .returned (.bool (decide (F ≤ h))) ∧ Below w'.heap.size w' w'') :
    Calls Tryd.prog 21 #[.int .i64 n, .func (.func g) #[] caps] w fun e w' => e = .returned (.int .i64 F) ∧ Below w.heap.size w w' := by
  have Hcall := Lib.hid hcall
  clear hcall
  go_enter Tryd.func21, Tryd.ntmps21
  go_wp2_with fail
  go_loopw [5, 6] (fun i j wr => ∃ x y : Nat, i = .int .i64 x ∧ j = .int .i64 y ∧ x ≤ y ∧ y ≤ n ∧ x ≤ F ∧ F ≤ y ∧ Hid (Below w.heap.size w wr)) (fun i j _ => (intOf j - intOf i).toNat)
  case atStart => exact ⟨0, n, rfl, rfl, by omega, by omega, by omega, by omega, Below.refl _ _⟩
  case round =>
    obtain ⟨x, y, rfl, rfl, hxy, hyn, hx, hy, hB⟩ := hrel
    by_cases hlt : x < y
    · obtain ⟨H, hH⟩ : ∃ H, H = (x + y) / 2 := ⟨_, rfl⟩
      have e1 : ((x : Int) + (y : Int)) / 2 = (H : Int) := by omega
      have z1 : x ≤ H := by omega
      have z2 : H < y := by omega
      have hc := Hcall.out wr H (by omega) hB.out
      clear hH
      by_cases hs : H < F
      · rw [decide_eq_false (by omega)] at hc
        have Hc := Lib.hid hc
        clear hc
        go_wp2_with fail
        refine Hc.out.mono ?_
        rintro e w' ⟨rfl, hb⟩
        have hB2 := Lib.hid (hB.out.trans (hb.mono hB.out.size))
        clear hb Hc
        go_wp2_with fail
        go_roundw
        case rel => exact ⟨H + 1, y, by go_num, rfl, by omega, by omega, by omega, by omega, hB2⟩
        case measure => simp [intOf]; omega
      · rw [decide_eq_true (by omega)] at hc
        have Hc := Lib.hid hc
        clear hc
        go_wp2_with fail
        refine Hc.out.mono ?_
        rintro e w' ⟨rfl, hb⟩
        have hB2 := Lib.hid (hB.out.trans (hb.mono hB.out.size))
        clear hb Hc
        go_wp2_with fail
        go_roundw
        case rel => exact ⟨x, H, rfl, by go_num, by omega, by omega, by omega, by omega, hB2⟩
        case measure => simp [intOf]; omega
    · obtain rfl : x = F := by omega
      go_wp2
      go_ret
      exact ⟨rfl, hB.out⟩
abbrev PCT : TypeId := 27
abbrev STT : TypeId := 9
set_option maxRecDepth 100000 in
theorem seek1_any (w : World) (b1 b2 b h : Nat) (a : Option Addr) (n c k : Nat) (L : List En) (key : ByteArray) (h1 : w.cell? ⟨b1, 0, none⟩ = some (.pointer (some ⟨b, 0, none⟩))) (h2 : w.cell? ⟨b2, 0, none⟩ = some (.string key)) (hq : CurQ w b a n c L k) (hh : h < n) :
    Calls Tryd.prog 22 #[.int .i64 h, .pointer (some ⟨b1, 0, none⟩), .pointer (some ⟨b2, 0, none⟩)] w fun e w' => e = .returned (.bool (!blt (ea L h).k key)) ∧ Below w.heap.size w w' := by
  have hn := hq.hn
  have hl := hq.hl
  obtain ⟨W, hW⟩ : ∃ W, w.drew = W := ⟨_, rfl⟩
  have hbd : Below w.heap.size w W := by rw [← hW]; exact (Below.refl _ _).drew
  have qW := hq.ext hbd
  obtain ⟨g, o, rfl, hcell⟩ := qW.s.ents (by omega)
  have hA := (hcell h (by omega)).1
  have lA := block_lt_of_cell hA
  have q0 : ∀ w', Ext W w' → w'.cell? ⟨g, o + h * 2, none⟩ = some (.string (ea L h).k) := fun w' hw => by
    rw [hw.cell (p := ⟨g, o + h * 2, none⟩) lA]; exact hA
  have l1 := block_lt_of_cell h1
  have l2 := block_lt_of_cell h2
  have q1 : ∀ w', Ext W w' → w'.cell? ⟨b1, 0, none⟩ = some (.pointer (some ⟨b, 0, none⟩)) := fun w' hw => by
    rw [(hbd.trans (hw.mono hbd.size)).cell (p := ⟨b1, 0, none⟩) l1]; exact h1
  have q2 : ∀ w', Ext W w' → w'.cell? ⟨b2, 0, none⟩ = some (.string key) := fun w' hw => by
    rw [(hbd.trans (hw.mono hbd.size)).cell (p := ⟨b2, 0, none⟩) l2]; exact h2
  have q3 : ∀ w', Ext W w' → w'.cell? ⟨b, 0, none⟩ = some (.slice (some ⟨g, o, none⟩) n c) := fun w' hw => (qW.ext hw).at_.c0
  have hle : Op.bytesLess (ea L h).k.toList key.toList = blt (ea L h).k key := rfl
  have i0 : (0 : Int) ≤ (h : Int) := by omega
  have i1 : (h : Int) < (n : Int) := by omega
  have z0 : IntKind.i64.wrap (h : Int) = (h : Int) := by rw [IntKind.wrap_i64]; omega
  have HW := Lib.hid (And.intro hW hbd)
  generalize blt (ea L h).k key = D at *
  clear hcell hA lA hq qW h1 h2 hn hW hbd l1 l2
  go_enter Tryd.func22, Tryd.ntmps22
  go_wp2_with fail
  refine wp_region_gr [(0, true), (1, true), (2, true), (3, true), (4, true), (5, true), (6, true), (7, true), (8, true), (9, true), (10, true)] (by kernel_rfl) (by kernel_rfl) (by kernel_rfl) (by kernel_rfl) (fun _ _ _ _ _ h => h) ?_
  rw [HW.out.1]
  iterate 11 (refine wpGr_read (o := ⟨_, _, _, _, _, _⟩) (v := ?_) rfl (by rfl) ?_ ?_; rotate_left; (intro w' hw'; go_simp; with_reducible rfl); simp only [Act.put, List.setIfInBounds_toArray, List.set_cons_zero, List.set_cons_succ])
  refine wpGr_done ?_
  go_wp2_with fail
  go_ret
  exact ⟨rfl, HW.out.2⟩
set_option maxRecDepth 100000 in
theorem seek_at (w : World) (b : Nat) (a : Option Addr) (n c : Nat) (L : List En) (k : Nat) (key : ByteArray) (h : CurQ w b a n c L k) (hs : srt L) :
    Calls Tryd.prog 6 #[.pointer (some ⟨b, 0, none⟩), .string key] w fun e w' => e = .returned (.tuple #[]) ∧ CurQ w' b a n c L (fE L key) ∧ Turn (fun i => i = b) w w' := by
  have hn := h.hn
  have hl := h.hl
  have hF : fE L key ≤ n := by have := fE_le L key; unfold goneE at this; split at this <;> omega
  obtain ⟨w1, hw1, hn1, hb1⟩ := alloc_own w PCT #[.pointer (some ⟨b, 0, none⟩)]
  obtain ⟨w2, hw2, hn2, hb2⟩ := alloc_own w1 STT #[.string key]
  obtain ⟨W, hW⟩ : ∃ W, w2.drew = W := ⟨_, rfl⟩
  have hbd : Below w2.heap.size w2 W := by rw [← hW]; exact (Below.refl _ _).drew
  have z1 : w1.heap.size = w.heap.size + 1 := by rw [← hw1]; simp
  rw [z1] at hn2
  obtain ⟨b1, hb1e⟩ : ∃ b1, w.heap.size = b1 := ⟨_, rfl⟩
  obtain ⟨b2, hb2e⟩ : ∃ b2, b1 + 1 = b2 := ⟨_, rfl⟩
  rw [hb1e] at hn1 hn2
  rw [hb2e] at hn2
  have hbW : Below w.heap.size w W := (hb1.trans (hb2.mono hb1.size)).trans (hbd.mono (Nat.le_trans hb1.size hb2.size))
  have qW := h.ext hbW
  have m1 : W.heap[b1]? = some (.cells #[.pointer (some ⟨b, 0, none⟩)] PCT (0, 0)) := (hbd.block b1 (by have := (Array.getElem?_eq_some_iff.1 hn1).1; have := hb2.size; omega)).trans ((hb2.block b1 (Array.getElem?_eq_some_iff.1 hn1).1).trans hn1)
  have m2 : W.heap[b2]? = some (.cells #[.string key] STT (0, 0)) := (hbd.block b2 (Array.getElem?_eq_some_iff.1 hn2).1).trans hn2
  have ne1 : b1 ≠ b := by have := h.at_.lt; omega
  have ne2 : b2 ≠ b := by have := h.at_.lt; omega
  have lb1 : b1 < W.heap.size := (Array.getElem?_eq_some_iff.1 m1).1
  have lb2 : b2 < W.heap.size := (Array.getElem?_eq_some_iff.1 m2).1
  have k1 : W.cell? ⟨b1, 0, none⟩ = some (.pointer (some ⟨b, 0, none⟩)) := by simp [World.cell?, m1]
  have k2 : W.cell? ⟨b2, 0, none⟩ = some (.string key) := by simp [World.cell?, m2]
  have x0 : (w2).cell? ⟨b1, 0, none⟩ = some (.pointer (some ⟨b, 0, none⟩)) := by rw [show w2.cell? ⟨b1, 0, none⟩ = W.cell? ⟨b1, 0, none⟩ by rw [← hW]; rfl]; exact k1
  have u1 : ∀ w', Turn (fun i => i = b) W w' → w'.cell? ⟨b1, 0, none⟩ = some (.pointer (some ⟨b, 0, none⟩)) := fun w' t => by
    rw [t.cell (p := ⟨b1, 0, none⟩) lb1 ne1]; exact k1
  have eg : ∀ args w, (callFunc 22 args).run Tryd.prog w = .ok (.enter 22 args) w := enters_of Tryd.func22 (by kernel_rfl) rfl
  have Hsr := Lib.hid (search_gen W 22 #[.pointer (some ⟨b1, 0, none⟩), .pointer (some ⟨b2, 0, none⟩)] n (fE L key) (by omega) hF eg (fun w' j hj hb => by
    have := seek1_any w' b1 b2 b j a n c k L key (by rw [hb.cell (p := ⟨b1, 0, none⟩) lb1]; exact k1) (by rw [hb.cell (p := ⟨b2, 0, none⟩) lb2]; exact k2) (qW.ext hb) hj
    have e : (!blt (ea L j).k key) = decide (fE L key ≤ j) := by
      rcases Nat.lt_or_ge j (fE L key) with h3 | h3
      · rw [fE_lt L key j h3, decide_eq_false (by omega)]; rfl
      · rw [fE_ge hs key j h3 (by omega), decide_eq_true h3]; rfl
    rw [e] at this
    exact this))
  have hmf : ∀ (fn : Fn) (first cap : Array Value) (w : World), (Instr.makeFunc fn first cap).run Tryd.prog w = .ok (.func fn first cap) w := fun _ _ _ _ => rfl
  obtain ⟨F, hFe⟩ : ∃ F, fE L key = F := ⟨_, rfl⟩
  rw [hFe] at Hsr hF
  rw [hFe]
  have H := Lib.hid h
  have QW := Lib.hid qW
  have HbW := Lib.hid hbW
  have HW : Hid ((((w.alloc (.cells #[.pointer (some ⟨b, 0, none⟩)] PCT)).alloc (.cells #[.string key] STT)) = w2) ∧ w2.drew = W) := ⟨by rw [hw1, hw2], hW⟩
  have He := Lib.hid (And.intro hb1e hb2e)
  have v0 := QW.out.at_.c0
  rw [← hw2, ← hw1, ← hb1e] at x0
  clear h hs hw1 hn1 hb1 hw2 hn2 hb2 hW hbd z1 hb1e hb2e hbW qW m1 m2 k1 k2 lb1 lb2 eg hFe hn
  go_enter Tryd.func6, Tryd.ntmps6
  go_wp2_with fail
  rw [He.out.1, He.out.2]
  refine wp_region_gx (fun i => i = b) (.rd 0 (.rd 1 (.rd 2 (.rd 3 (.rd 6 (.call 4 (.rd 5 (.call 7 (.rd 8 (.rd 9 (.call 10 .done))))))))))) (by kernel_rfl) (by kernel_rfl) (by kernel_rfl) (by kernel_rfl) (fun _ _ _ _ _ h => h) ?_
  rw [HW.out.1, HW.out.2]
  iterate 5 (refine wpGx_read (o := ⟨_, _, _, _, _, _⟩) (v := ?_) rfl (by rfl) ?_ ?_; rotate_left; (intro w' hw'; go_simp; with_reducible rfl); simp only [Act.put, List.setIfInBounds_toArray, List.set_cons_zero, List.set_cons_succ])
  refine stepX_call (o := ⟨_, _, _, _, _, _⟩) rfl (by rfl) (fun K hK => ?_)
  go_simp
  refine hK (fun i => i = b) (fun _ h _ => h) _ _ (Turn.refl _ _) ?_
  clear hK K
  iterate 1 (refine wpGx_read (o := ⟨_, _, _, _, _, _⟩) (v := ?_) rfl (by rfl) ?_ ?_; rotate_left; (intro w' hw'; go_simp; with_reducible rfl); simp only [Act.put, List.setIfInBounds_toArray, List.set_cons_zero, List.set_cons_succ])
  refine stepX_call (o := ⟨_, _, _, _, _, _⟩) rfl (by rfl) (fun K hK => ?_)
  go_simp
  refine Hsr.out.mono ?_
  rintro e w3 ⟨rfl, hb3⟩
  refine hK (fun i => i = b) (fun _ h _ => h) _ _ (Turn.ofBelow hb3) ?_
  clear hK K v0 u1
  have q3 := QW.out.ext hb3
  have c1 := q3.at_.c1
  have f1 := q3.at_.fz 1
  have Hfin : Hid (CurQ (w3.setCell ⟨b, 1, none⟩ (.int .i64 F)) b a n c L F ∧ Turn (fun i => i = b) w (w3.setCell ⟨b, 1, none⟩ (.int .i64 F))) :=
    ⟨q3.put hF, (Turn.ofBelow (HbW.out.trans (hb3.mono HbW.out.size))).step (turn_one w3 b 1 _) (fun _ h _ => h)⟩
  clear q3 hb3 Hsr
  iterate 2 (refine wpGx_read (o := ⟨_, _, _, _, _, _⟩) (v := ?_) rfl (by rfl) ?_ ?_; rotate_left; (intro w' hw'; go_simp; with_reducible rfl); simp only [Act.put, List.setIfInBounds_toArray, List.set_cons_zero, List.set_cons_succ])
  refine stepX_call (o := ⟨_, _, _, _, _, _⟩) rfl (by rfl) (fun K hK => ?_)
  go_simp
  refine hK (fun _ => False) (fun _ h => h.elim) _ _ (turn_one _ _ _ _) ?_
  clear hK K c1 f1
  refine wpGx_done ?_
  go_wp2_with fail
  go_end0
  exact ⟨rfl, Hfin.out⟩
end Go.Proofs.YtggibbgohhpfpaaDoor
namespace Go.Proofs.YtggibbgohhpfpaaDoor
open Go Go.RowKit Go.Shelf

theorem rows_whole (s : Sp) (es : List En) : rowsL s es ((es.length : Nat) : Int) false = inS s es := by
  unfold rowsL turnB
  rw [if_neg (by decide), List.take_of_length_le]
  have := inS_len s es
  omega
set_option maxRecDepth 100000 in
theorem cnew_any (p : Option Addr) (es : List En) (H : Nat) (s : Sp) (w : World) (ht : TreeP w p es H) (n : Nat) (hn : es.length = n) (hl : n ≤ 60000) :
    Calls Tryd.prog 14 #[.agg #[.pointer p, .int .i64 n], s.v] w fun e w' => ∃ b a m c, e = .returned (.pointer (some ⟨b, 0, none⟩)) ∧ w.heap.size ≤ b ∧ CurQ w' b a m c (inS s es) 0 ∧ Below w.heap.size w w' := by
  obtain ⟨w1, hw1, hn1, hb1⟩ := alloc_own w TT #[.pointer p, .int .i64 n]
  obtain ⟨w2, hw2, hn2, hb2⟩ := alloc_own w1 SPT #[.string s.lo, .string s.hi, .bool s.op]
  have z1 : w1.heap.size = w.heap.size + 1 := by rw [← hw1]; simp
  rw [z1] at hn2
  obtain ⟨W, hW⟩ : ∃ W, w2.drew = W := ⟨_, rfl⟩
  have hbd : Below w2.heap.size w2 W := by rw [← hW]; exact (Below.refl _ _).drew
  have hbW : Below w.heap.size w W := (hb1.trans (hb2.mono hb1.size)).trans (hbd.mono (Nat.le_trans hb1.size hb2.size))
  have hT : TB W w.heap.size p n := ((show TB w1 w.heap.size p n from hn1).ext hb2).ext hbd
  have hS : SpIn W (w.heap.size + 1) SPT s := (show SpIn w2 (w.heap.size + 1) SPT s from hn2).ext hbd
  have tW := ht.ext hbW
  obtain ⟨bt, hbt⟩ : ∃ bt, w.heap.size = bt := ⟨_, rfl⟩
  obtain ⟨bs, hbs⟩ : ∃ bs, bt + 1 = bs := ⟨_, rfl⟩
  rw [hbt] at hT hS
  rw [hbs] at hS
  have c0 : ∀ w', Turn (fun _ => False) W w' → w'.cell? ⟨bt, 0, none⟩ = some (.pointer p) := fun w' t => (hT.turn t (fun h => h)).c0
  have c1 : ∀ w', Turn (fun _ => False) W w' → w'.cell? ⟨bt, 1, none⟩ = some (.int .i64 n) := fun w' t => (hT.turn t (fun h => h)).c1
  have d0 : ∀ w', Turn (fun _ => False) W w' → w'.cell? ⟨bs, 0, none⟩ = some (.string s.lo) := fun w' t => (show SpIn w' bs SPT s from t.hg hS (fun h => h)).c0
  have d1 : ∀ w', Turn (fun _ => False) W w' → w'.cell? ⟨bs, 1, none⟩ = some (.string s.hi) := fun w' t => (show SpIn w' bs SPT s from t.hg hS (fun h => h)).c1
  have d2 : ∀ w', Turn (fun _ => False) W w' → w'.cell? ⟨bs, 2, none⟩ = some (.bool s.op) := fun w' t => (show SpIn w' bs SPT s from t.hg hS (fun h => h)).c2
  have Hlen := Lib.hid (fun x => len_any p n x)
  have Hrows : Hid (∀ x, Below W.heap.size W x → Calls Tryd.prog 27 #[.agg #[.pointer p, .int .i64 n], s.v, .int .i64 n, .bool false] x fun e w' => ∃ u, e = .returned (.tuple #[u, .bool (rowsM s es n)]) ∧ EV entE w' u (inS s es) ∧ Below x.heap.size x w') := fun x hx => by
    have h := rows_any p n es H s n false x (tW.ext hx) (by omega)
    rw [← hn, rows_whole, hn] at h
    exact h
  have HW : Hid (((w.alloc (.cells #[.pointer p, .int .i64 n] TT)).alloc (.cells #[.string s.lo, .string s.hi, .bool s.op] SPT)) = w2 ∧ w2.drew = W) := ⟨by rw [hw1, hw2], hW⟩
  have HbW := Lib.hid hbW
  have Hbs := Lib.hid (And.intro hbt hbs)
  have Hin : Hid ((inS s es).length ≤ 60000) := by show _ ≤ _; have := inS_len s es; omega
  obtain ⟨DM, hDM⟩ : ∃ DM, rowsM s es n = DM := ⟨_, rfl⟩
  rw [hDM] at Hrows
  unfold Sp.v at Hrows ⊢
  clear ht hw1 hn1 hb1 hw2 hn2 hb2 z1 hW hbd hbW hT hS tW hDM hbt hbs hn
  go_enter Tryd.func14, Tryd.ntmps14
  go_wp2_with fail
  rw [Hbs.out.1, Hbs.out.2]
  refine wp_region_gx (fun _ => False) (.rd 0 (.rd 1 (.rd 2 (.call 3 (.call 4 (.rd 5 (.rd 6 (.rd 7 (.rd 8 (.rd 9 .done)))))))))) (by kernel_rfl) (by kernel_rfl) (by kernel_rfl) (by kernel_rfl) (fun _ _ _ _ _ h => h) ?_
  rw [HW.out.1, HW.out.2]
  iterate 3 (refine wpGx_read (o := ⟨_, _, _, _, _, _⟩) (v := ?_) rfl (by rfl) ?_ ?_; rotate_left; (intro w' hw'; go_simp; with_reducible rfl); simp only [Act.put, List.setIfInBounds_toArray, List.set_cons_zero, List.set_cons_succ])
  clear c0 c1 d0 d1 d2
  refine stepX_call (o := ⟨_, _, _, _, _, _⟩) rfl (by rfl) (fun K hK => ?_)
  go_simp
  refine (Hlen.out _).mono ?_
  rintro e w3 ⟨rfl, hb3⟩
  refine hK (fun _ => False) (fun _ h => h.elim) _ _ (Turn.ofBelow hb3) ?_
  clear hK K
  have Hb3 := Lib.hid hb3
  clear hb3
  refine stepX_call (o := ⟨_, _, _, _, _, _⟩) rfl (by rfl) (fun K hK => ?_)
  go_simp
  refine (Hrows.out _ Hb3.out).mono ?_
  rintro e w4 ⟨u, rfl, hev, hb4⟩
  refine hK (fun _ => False) (fun _ h => h.elim) _ _ (Turn.ofBelow hb4) ?_
  clear hK K
  obtain ⟨a, m, c, rfl, hls, hlN, hlc⟩ := ev_ct hev
  have hbw4 : Below w.heap.size w w4 := (HbW.out.trans (Hb3.out.mono HbW.out.size)).trans (hb4.mono (by have := HbW.out.size; have := Hb3.out.size; omega))
  have HL := Lib.hid (And.intro hls (And.intro hlN (And.intro hlc hbw4)))
  clear hls hlN hlc hbw4 hev hb4 Hb3 Hlen Hrows
  iterate 5 (refine wpGx_read (o := ⟨_, _, _, _, _, _⟩) (v := ?_) rfl (by rfl) ?_ ?_; rotate_left; (intro w' hw'; go_simp; with_reducible rfl); simp only [Act.put, List.setIfInBounds_toArray, List.set_cons_zero, List.set_cons_succ])
  refine wpGx_done ?_
  go_wp2_with fail
  go_ret
  obtain ⟨W5, hW5, hn5, hb5⟩ := alloc_own w4 CURT #[.slice a m c, .int .i64 0]
  rw [hW5]
  have hbs4 := HL.out.2.2.2.size
  refine ⟨w4.heap.size, a, m, c, rfl, hbs4, ⟨hn5, HL.out.1.below hb5 (Nat.le_refl _), HL.out.2.1, Nat.zero_le _, ?_, HL.out.2.2.1.2.1⟩, HL.out.2.2.2.trans (hb5.mono hbs4)⟩
  have := Hin.out; have := HL.out.2.1; omega
end Go.Proofs.YtggibbgohhpfpaaDoor
