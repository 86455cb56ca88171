/-
  cut's Remove.
-/
import Derived.Test.YtimdlgjgoggaiaaDoorBlocksZ
import Derived.Test.YtimdlgjgoggaiaaDoorPutTZ
import Derived.Test.YtimdlgjgoggaiaaDoorTurnZ
namespace Go.Proofs.YtimdlgjgoggaiaaDoor
open Go Go.RowKit Go.Shelf

/-- What Remove's closure has: the tree without what it was handed. -/
structure DJ (W : World) (bl : Nat) (es acc : List En) (w : World) : Prop where
  t : ∃ p H, TB w bl p ((delS es acc).length : Nat) ∧ TreeP w p (delS es acc) H
  f : Turn (fun i => i = bl) W w
theorem DJ.ok (w0 W : World) (bl : Nat) (es : List En) (hb : Below w0.heap.size w0 W) (h0 : w0.heap.size ≤ bl) : JOk w0 (DJ W bl es) :=
  ⟨fun h => hb.trans (h.f.below hb.size (fun i hi => hi ▸ h0)), fun h hb => ⟨by obtain ⟨p, H, h1, h2⟩ := h.t; exact ⟨p, H, h1.ext hb, h2.ext hb⟩, h.f.trans (Turn.ofBelow hb)⟩⟩
set_option maxRecDepth 100000 in
theorem remove1_any (W0 : World) (M bl N : Nat) (es : List En) (hes : es.length ≤ 60000) (hM : bl < M) : Inn M 30 #[.pointer (some ⟨bl, 0, none⟩)] N (fun _ => true) (DJ W0 bl es) := by
  intro acc e w hlen hj
  obtain ⟨W, hW, hnew, hbW⟩ := alloc_own w ET #[.string e.k, .string e.v]
  obtain ⟨⟨p, H, ht, htr⟩, hf0⟩ := hj
  have t1 := ht.ext hbW
  have c0 := t1.c0
  have c1 := t1.c1
  have n0 : W.cell? ⟨w.heap.size, 0, none⟩ = some (.string e.k) := by simp [World.cell?, hnew]
  have hdl := delS_len acc es
  have hcall := delete_all p (delS es acc) H e.k W (htr.ext hbW) (by omega)
  rw [← delS_one] at hcall
  have Hcall := Lib.hid hcall
  obtain ⟨DI, hDI⟩ : ∃ DI, isE (delS es acc) e.k = DI := ⟨_, rfl⟩
  rw [hDI] at Hcall
  obtain ⟨k, hk⟩ : ∃ k, (delS es acc).length = k := ⟨_, rfl⟩
  obtain ⟨m, hm⟩ : ∃ m, (delS es (acc ++ [e])).length = m := ⟨_, rfl⟩
  rw [hk] at c1 Hcall
  rw [hm] at Hcall
  have HW := Lib.hid hW
  have Ht := Lib.hid t1
  have Hb := Lib.hid (And.intro hf0 hbW)
  have Hm := Lib.hid hm
  rw [← hW] at c0 c1 n0
  clear hW hnew hbW ht htr hf0 t1 hdl hcall hDI hk hm hlen
  go_enter Tryd.func30, Tryd.ntmps30
  go_wp2_with fail
  rw [HW.out]
  refine Hcall.out.mono ?_
  rintro e' w2 ⟨p2, H2, rfl, ht2, hb2⟩
  have t2 := Ht.out.ext hb2
  have f0 := t2.fz 0
  have f1 := t2.fz 1
  have c0' := t2.c0
  have c1' := t2.c1
  have hp := t2.put p2 (m : Int)
  have htp := turn_put w2 bl (.pointer p2) (.int .i64 (m : Int))
  have ht3 := ht2.turn htp (TF.one t2)
  have hbx := Hb.out.2.trans (hb2.mono Hb.out.2.size)
  have hJ : Hid (DJ W0 bl es (acc ++ [e]) ((w2.setCell ⟨bl, 0, none⟩ (.pointer p2)).setCell ⟨bl, 1, none⟩ (.int .i64 (m : Int)))) := ⟨⟨p2, H2, by rw [Hm.out]; exact hp, ht3⟩, Hb.out.1.trans ((Turn.ofBelow hbx).trans htp)⟩
  have hK : Hid (Keeps M w ((w2.setCell ⟨bl, 0, none⟩ (.pointer p2)).setCell ⟨bl, 1, none⟩ (.int .i64 (m : Int)))) := ((Keeps.ofBelow hbx).set _ hM).set _ hM
  clear ht2 hb2 t2 hp htp ht3 hbx Hcall Ht Hb c0 c1 n0
  go_wp2_with fail
  go_ret
  exact ⟨rfl, hJ.out, hK.out⟩
set_option maxRecDepth 100000 in
theorem remove_any (p : Option Addr) (es : List En) (H : Nat) (s : Sp) (w : World) (ht : TreeP w p es H) (hl : es.length ≤ 60000) :
    Calls Tryd.prog 11 #[.agg #[.pointer p, .int .i64 es.length], s.v] w fun e w' => ∃ p' H', e = .returned (.tuple #[.agg #[.pointer p', .int .i64 ((outS s es).length : Nat)], .int .i64 ((inS s es).length : Nat)]) ∧ TreeP w' p' (outS s es) H' ∧ Below w.heap.size w w' := by
  obtain ⟨W3, hW3, h1, h2, h3, hb3, hz3⟩ := three_own w #[.pointer p, .int .i64 es.length] #[.string s.lo, .string s.hi, .bool s.op] #[.pointer none, .int .i64 0] TT SPT TT
  obtain ⟨W, hW, h4, hb4⟩ := alloc_own W3 TT #[.pointer p, .int .i64 es.length]
  have hzW : W.heap.size = w.heap.size + 4 := by rw [← hW, alloc_size, hz3]
  rw [show W3.heap.size = w.heap.size + 1 + 1 + 1 by rw [hz3]] at h4
  have k1 : TB W w.heap.size p es.length := (show TB W3 w.heap.size p es.length from h1).ext hb4
  have k2 : SpIn W (w.heap.size + 1) SPT s := (show SpIn W3 (w.heap.size + 1) SPT s from h2).ext hb4
  have k3 : TB W (w.heap.size + 1 + 1) none 0 := (show TB W3 (w.heap.size + 1 + 1) none 0 from h3).ext hb4
  have k4 : TB W (w.heap.size + 1 + 1 + 1) p es.length := h4
  have hb := hb3.trans (hb4.mono (by omega))
  have hsr := ht.facts.1
  have e30 : ∀ args w, (callFunc 30 args).run Tryd.prog w = .ok (.enter 30 args) w := enters_of Tryd.func30 (by kernel_rfl) rfl
  have hcall := each_any w p es.length es H ht hl s _ _ es.length (fun _ => true) (DJ W (w.heap.size + 1 + 1 + 1) es) (DJ.ok w W _ es hb (by omega)) e30 (Nat.le_refl _) W (remove1_any W W.heap.size (w.heap.size + 1 + 1 + 1) es.length es hl (by omega)) ⟨⟨p, H, k4, ht.ext hb⟩, Turn.refl _ _⟩
  rw [goS_all (fun _ => true) (fun _ => rfl), List.nil_append] at hcall
  have hpost : Hid (∀ x, DJ W (w.heap.size + 1 + 1 + 1) es (inS s es) x → ∃ p' H', TB x (w.heap.size + 1 + 1 + 1) p' ((outS s es).length : Nat) ∧ TreeP x p' (outS s es) H' ∧ TB x w.heap.size p es.length ∧ TB x (w.heap.size + 1 + 1) none 0 ∧ Below w.heap.size w x) := fun x hx => by
    obtain ⟨⟨p', H', h5, h6⟩, hf⟩ := hx
    rw [del_in s hsr] at h5 h6
    exact ⟨p', H', h5, h6, k1.turn hf (by omega), k3.turn hf (by omega), hb.trans (hf.below (by omega) (fun i hi => by omega))⟩
  have Hcall := Lib.hid hcall
  have Hio := Lib.hid (in_out s es)
  obtain ⟨n, hn⟩ : ∃ n, es.length = n := ⟨_, rfl⟩
  obtain ⟨m, hm⟩ : ∃ m, (outS s es).length = m := ⟨_, rfl⟩
  obtain ⟨i, hi⟩ : ∃ i, (inS s es).length = i := ⟨_, rfl⟩
  rw [hn, hm, hi] at Hio
  have hio := Hio.out
  rw [hn] at hW3 hW k1 k4 Hcall hl hpost ⊢
  rw [hm] at hpost ⊢
  rw [hi]
  have HW : Hid ((((w.alloc (.cells #[.pointer p, .int .i64 n] TT)).alloc (.cells #[.string s.lo, .string s.hi, .bool s.op] SPT)).alloc (.cells #[.pointer none, .int .i64 0] TT)).alloc (.cells #[.pointer p, .int .i64 n] TT) = W) := by show _ = _; rw [hW3, hW]
  have c0 := k1.c0
  have c1 := k1.c1
  have d0 := k2.c0
  have d1 := k2.c1
  have d2 := k2.c2
  rw [← HW.out] at c0 c1 d0 d1 d2
  have hmf : ∀ (fn : Fn) (first cap : Array Value) (w : World), (Instr.makeFunc fn first cap).run Tryd.prog w = .ok (.func fn first cap) w := fun _ _ _ _ => rfl
  have z0 : IntKind.i64.wrap ((n : Int) - (m : Int)) = (i : Int) := by rw [IntKind.wrap_i64]; omega
  unfold Sp.v at Hcall ⊢
  clear hW3 h1 h2 h3 hb3 hz3 hW h4 hb4 hzW k1 k2 k3 k4 hb hsr hcall hn hm hi hio Hio ht
  go_enter Tryd.func11, Tryd.ntmps11
  go_wp2_with fail
  rw [HW.out]
  refine Hcall.out.mono ?_
  rintro e w2 ⟨rfl, hj⟩
  obtain ⟨p', H', h5, h6, h7, h8, hb2⟩ := hpost.out w2 hj
  clear hj Hcall c0 c1 d0 d1 d2 hpost
  obtain ⟨W2, hW2⟩ : ∃ W2, w2.drew = W2 := ⟨_, rfl⟩
  have hbd : Below w2.heap.size w2 W2 := by rw [← hW2]; exact (Below.refl _ _).drew
  have lW : w.heap.size + 1 + 1 + 1 < w2.heap.size := h5.lt
  have a0 : ∀ w', Turn (fun j => j = w.heap.size + 1 + 1) W2 w' → w'.cell? ⟨w.heap.size + 1 + 1 + 1, 0, none⟩ = some (.pointer p') := fun w' hx => ((h5.ext hbd).turn hx (by omega)).c0
  have a1 : ∀ w', Turn (fun j => j = w.heap.size + 1 + 1) W2 w' → w'.cell? ⟨w.heap.size + 1 + 1 + 1, 1, none⟩ = some (.int .i64 m) := fun w' hx => ((h5.ext hbd).turn hx (by omega)).c1
  have b0 : ∀ w', Turn (fun j => j = w.heap.size + 1 + 1) W2 w' → w'.cell? ⟨w.heap.size, 0, none⟩ = some (.pointer p) := fun w' hx => ((h7.ext hbd).turn hx (by omega)).c0
  have b1 : ∀ w', Turn (fun j => j = w.heap.size + 1 + 1) W2 w' → w'.cell? ⟨w.heap.size, 1, none⟩ = some (.int .i64 n) := fun w' hx => ((h7.ext hbd).turn hx (by omega)).c1
  have H6 := Lib.hid (h6.ext hbd)
  have H8 := Lib.hid (h8.ext hbd)
  have HB := Lib.hid (hb2.trans (hbd.mono hb2.size))
  have HW2 := Lib.hid hW2
  have Hl1 := Lib.hid (fun (n : Int) (x : World) => len_any p n x)
  have Hl2 := Lib.hid (fun (n : Int) (x : World) => len_any p' n x)
  clear h5 h6 h7 h8 hb2 hW2 hbd lW
  go_wp2_with fail
  refine wp_region_gt (F := fun j => j = w.heap.size + 1 + 1) [(0, true), (1, true), (3, true), (2, false), (4, false), (5, true), (6, false), (7, true)] (by kernel_rfl) (by kernel_rfl) (by kernel_rfl) (by kernel_rfl) (fun _ _ _ _ _ h => h) ?_
  rw [HW2.out]
  iterate 3 (refine wpGt_read (o := ⟨_, _, _, _, _, _⟩) (v := ?_) rfl (by rfl) ?_ ?_; rotate_left; (intro w' hw'; go_simp; with_reducible rfl); simp only [Act.put, List.setIfInBounds_toArray, List.set_cons_zero, List.set_cons_succ])
  clear a0 a1 b0 b1
  refine wpGt_call (o := ⟨_, _, _, _, _, _⟩) rfl (by rfl) (fun K hK => ?_)
  go_simp
  refine (Hl1.out _ _).mono ?_
  rintro e w3 ⟨rfl, hb3⟩
  refine hK _ _ (Turn.ofBelow hb3) ?_
  clear hK K
  have H63 := Lib.hid (H6.out.ext hb3)
  have H83 := Lib.hid (H8.out.ext hb3)
  have HB3 := Lib.hid (HB.out.trans (hb3.mono HB.out.size))
  clear hb3
  refine wpGt_call (o := ⟨_, _, _, _, _, _⟩) rfl (by rfl) (fun K hK => ?_)
  go_simp
  refine (Hl2.out _ _).mono ?_
  rintro e w4 ⟨rfl, hb4⟩
  refine hK _ _ (Turn.ofBelow hb4) ?_
  clear hK K
  have t8 := H83.out.ext hb4
  have f0 := t8.fz 0
  have f1 := t8.fz 1
  have c0 := t8.c0
  have c1 := t8.c1
  have htp := turn_put w4 (w.heap.size + 1 + 1) (.pointer p') (.int .i64 (m : Int))
  have Hp := Lib.hid (t8.put p' (m : Int))
  have Htr := Lib.hid ((H63.out.ext hb4).turn htp (TF.one t8))
  have HB4 := Lib.hid (below_put (b := w.heap.size + 1 + 1) (u := .pointer p') (v := .int .i64 (m : Int)) (HB3.out.trans (hb4.mono HB3.out.size)) (by omega))
  have Htp := Lib.hid htp
  clear hb4 t8 htp
  (refine wpGt_read (o := ⟨_, _, _, _, _, _⟩) (v := ?_) rfl (by rfl) ?_ ?_; rotate_left; (intro w' hw'; go_simp; with_reducible rfl); simp only [Act.put, List.setIfInBounds_toArray, List.set_cons_zero, List.set_cons_succ])
  refine wpGt_call (o := ⟨_, _, _, _, _, _⟩) rfl (by rfl) (fun K hK => ?_)
  go_simp
  refine hK _ _ Htp.out ?_
  clear hK K f0 f1 c0 c1
  have e0 := Hp.out.c0
  have e1 := Hp.out.c1
  (refine wpGt_read (o := ⟨_, _, _, _, _, _⟩) (v := ?_) rfl (by rfl) ?_ ?_; rotate_left; (intro w' hw'; go_simp; with_reducible rfl); simp only [Act.put, List.setIfInBounds_toArray, List.set_cons_zero, List.set_cons_succ])
  refine wpGt_done ?_
  go_wp2_with fail
  refine bodyPost_ret (v := .tuple #[.agg #[.pointer p', .int .i64 (m : Int)], .int .i64 (i : Int)]) (by rw [results_cell_tmp rfl]; go_simp) rfl ⟨p', H', rfl, Htr.out, HB4.out⟩
end Go.Proofs.YtimdlgjgoggaiaaDoor
