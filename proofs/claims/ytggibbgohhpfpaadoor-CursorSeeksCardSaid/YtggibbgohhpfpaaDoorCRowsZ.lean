/-
  cut's Rows.
-/
import Derived.Test.YtggibbgohhpfpaaDoorBlocksZ
import Derived.Test.YtggibbgohhpfpaaDoorTurnedZ
namespace Go.Proofs.YtggibbgohhpfpaaDoor
open Go Go.RowKit Go.Shelf

/-- What Rows' closure has. -/
structure RJ (w0 : World) (M bl bb bm : Nat) (back : Bool) (most : Int) (acc : List En) (w : World) : Prop where
  l : ∃ v, VB w bl SET v ∧ w.ownsRow M ET entE.sz v acc.length (entE.row acc)
  bk : VB w bb BT (.bool back)
  mo : VB w bm IT (.int .i64 most)
  b : Below w0.heap.size w0 w
  hM : M ≤ w.heap.size
theorem RJ.ok (w0 : World) (M bl bb bm : Nat) (back : Bool) (most : Int) : JOk w0 (RJ w0 M bl bb bm back most) :=
  ⟨fun h => h.b, fun h hb => ⟨by obtain ⟨v, h1, h2⟩ := h.l; exact ⟨v, h1.ext hb, own_ext h2 hb⟩, h.bk.ext hb, h.mo.ext hb, h.b.trans (hb.mono h.b.size), Nat.le_trans h.hM hb.size⟩⟩
/-- When Rows goes on. -/
def dRows (back : Bool) (most : Int) (l : List En) : Bool := back || dFront most l
theorem keeps_row {w w' : World} {M B : Nat} {v : Value} {n sz : Nat} {xs : List Value} (h : w.ownsRow B ET sz v n xs) (hg : w.grownBy w' v.ownBlock) : Keeps M w w' := fun b cs T fz hb _ hT => by
  refine (hg.block b (Array.getElem?_eq_some_iff.1 hb).1 (fun e => hT ?_)).trans hb
  rcases h.2 with ⟨rfl, _⟩ | ⟨g, cap, cur, rfl, _, hg2, _⟩
  · cases e
  · have e1 : (some g : Option Nat) = some b := e.symm
    obtain rfl : g = b := Option.some.inj e1
    rw [hb] at hg2
    injection hg2 with hg2
    injection hg2
set_option maxRecDepth 100000 in
theorem rows1_any (w0 : World) (M bl bb bm N : Nat) (back : Bool) (most : Int) (hN : N ≤ 100000) (h0 : w0.heap.size ≤ bl) (hM1 : bl < M) (hM2 : bb < M) (hM3 : bm < M) (hne1 : bb ≠ bl) (hne2 : bm ≠ bl) :
    Inn M 38 #[.pointer (some ⟨bl, 0, none⟩), .pointer (some ⟨bb, 0, none⟩), .pointer (some ⟨bm, 0, none⟩)] N (dRows back most) (RJ w0 M bl bb bm back most) := by
  intro acc e w hlen hj
  obtain ⟨⟨v, hv, hown⟩, hbk, hmo, hb0, hMw⟩ := hj
  obtain ⟨W1, hW1, hn1, hb1⟩ := alloc_own w ET #[.string e.k, .string e.v]
  obtain ⟨W, hW, hn2, hb2⟩ := alloc_own W1 ET #[.string e.k, .string e.v]
  have z1 : W1.heap.size = w.heap.size + 1 := by rw [← hW1, alloc_size]
  have hbW := hb1.trans (hb2.mono hb1.size)
  rw [z1] at hn2
  have hlit : ES entE W (some ⟨w.heap.size + 1, 0, none⟩) [e] := ES.lit (E := entE) (l := [e]) hn2
  have howW := own_ext hown hbW
  obtain ⟨i0, hi, hz, hs0, hby⟩ := info_parts infoE
  obtain ⟨g9, o9, h9, hc9⟩ := hlit.at (by simp)
  obtain ⟨rfl, rfl⟩ : w.heap.size + 1 = g9 ∧ 0 = o9 := by
    injection h9 with h9
    injection h9 with h10 h11
    exact ⟨h10, h11⟩
  obtain ⟨v2, w3, hrun, ho3, hg3, _⟩ := run_append_own (P := Tryd.prog) W M SET SET ET i0 entE.zero entE.sz entE.by_ Tryd.underlying54 hi hz hs0 hby entE.zc entE.pos v acc.length (entE.row acc) howW ⟨w.heap.size + 1, 0, none⟩ 1 1 (entE.row [e]) (by rw [entE.row_len]; rfl) (fun j u hu => by rw [addr_add]; exact hc9 j u hu) (entE.row_one _) (by unfold maxLen; omega) (by show _ * 32 ≤ _; omega) (Nat.le_trans hMw hbW.size)
  have hb3 : Below M W w3 := (Below.refl M W).grown hg3 (Nat.le_trans hMw hbW.size) (fun k hk => (howW.lt k hk).1)
  have k3 : Keeps M W w3 := keeps_row howW hg3
  obtain ⟨g, cap, rfl⟩ : ∃ g cap, v2 = .slice (some ⟨g, 0, none⟩) (acc.length + 1) cap := by
    rcases ho3.2 with ⟨_, h⟩ | ⟨g, cap, cur, h, _⟩
    · omega
    · exact ⟨g, cap, h⟩
  have hvW := hv.ext hbW
  have hv3 := hvW.below hb3 hM1
  have bk3 := (hbk.ext hbW).below hb3 hM2
  have mo3 := (hmo.ext hbW).below hb3 hM3
  have n0 : W.cell? ⟨w.heap.size, 0, none⟩ = some (.string e.k) := by
    have := (hb2.block w.heap.size (by omega)).trans hn1
    simp [World.cell?, this]
  have n1 : W.cell? ⟨w.heap.size, 1, none⟩ = some (.string e.v) := by
    have := (hb2.block w.heap.size (by omega)).trans hn1
    simp [World.cell?, this]
  have x0 : W1.cell? ⟨w.heap.size, 0, none⟩ = some (.string e.k) := by simp [World.cell?, hn1]
  have x1 : W1.cell? ⟨w.heap.size, 1, none⟩ = some (.string e.v) := by simp [World.cell?, hn1]
  have y0 := (hv.ext hb1).c0
  have c0 := hv3.c0
  have f0 := hv3.fz 0
  have b0 : (w3.setCell ⟨bl, 0, none⟩ (.slice (some ⟨g, 0, none⟩) (acc.length + 1) cap)).cell? ⟨bb, 0, none⟩ = some (.bool back) := by
    have h : VB (w3.setCell ⟨bl, 0, none⟩ (.slice (some ⟨g, 0, none⟩) (acc.length + 1) cap)) bb BT (.bool back) := by
      unfold VB; rw [heap_setCell_other _ _ _ _ (by simpa using hne1)]; exact bk3
    exact h.c0
  have m0 : (w3.setCell ⟨bl, 0, none⟩ (.slice (some ⟨g, 0, none⟩) (acc.length + 1) cap)).cell? ⟨bm, 0, none⟩ = some (.int .i64 most) := by
    have h : VB (w3.setCell ⟨bl, 0, none⟩ (.slice (some ⟨g, 0, none⟩) (acc.length + 1) cap)) bm IT (.int .i64 most) := by
      unfold VB; rw [heap_setCell_other _ _ _ _ (by simpa using hne2)]; exact mo3
    exact h.c0
  have l0 := (hv3.put (.slice (some ⟨g, 0, none⟩) (acc.length + 1) cap)).c0
  have hbx : Below w0.heap.size w0 w3 := hb0.trans (hbW.mono hb0.size |>.trans (hb3.mono (by omega)))
  have hJ : Hid (RJ w0 M bl bb bm back most (acc ++ [e]) (w3.setCell ⟨bl, 0, none⟩ (.slice (some ⟨g, 0, none⟩) (acc.length + 1) cap))) := by
    refine ⟨⟨_, hv3.put _, ?_⟩, ?_, ?_, hbx.setCell h0 _, ?_⟩
    · rw [entE.row_app, List.length_append]
      exact ownsRow_setCell_below ho3 hM1 _
    · unfold VB; rw [heap_setCell_other _ _ _ _ (by simpa using hne1)]; exact bk3
    · unfold VB; rw [heap_setCell_other _ _ _ _ (by simpa using hne2)]; exact mo3
    · have h1 := hb3.size
      have h2 := hbW.size
      simp [World.setCell]; omega
  have hK : Hid (Keeps M w (w3.setCell ⟨bl, 0, none⟩ (.slice (some ⟨g, 0, none⟩) (acc.length + 1) cap))) := ((Keeps.ofBelow hbW).trans k3).set _ hM1
  have hd : Hid (dRows back most (acc ++ [e]) = (back || decide (((acc.length + 1 : Nat) : Int) ≤ most))) := by
    show _ = _; unfold dRows dFront; rw [List.length_append]; rfl
  obtain ⟨k, hk⟩ : ∃ k, acc.length = k := ⟨_, rfl⟩
  rw [hk] at hrun b0 m0 l0 hJ hK hd
  have HW : Hid ((w.alloc (.cells #[.string e.k, .string e.v] ET)).alloc (.cells #[.string e.k, .string e.v] ET) = W) := by show _ = _; rw [hW1, hW]
  rw [← HW.out] at hrun
  rw [← hW1] at x0 x1 y0
  clear hv hown hbk hmo hb0 hW1 hn1 hb1 hW hn2 hb2 z1 hbW hlit howW hi hz hs0 hby h9 hc9 ho3 hg3 hb3 k3 hvW hv3 bk3 mo3 n0 n1 hbx hk hlen
  generalize dRows back most (acc ++ [e]) = D at *
  cases back with
  | true =>
    go_enter Tryd.func38, Tryd.ntmps38
    go_wp2_with (at_builtin; refine Lib.wpList_append_run _ rfl (.tmp 6) (.tmp 8) _ _ rfl _ _ (by rfl) (by rfl) _ _ hrun ?_)
    go_wp2_with fail
    go_ret
    exact ⟨by rw [hd.out]; rfl, hJ.out, hK.out⟩
  | false =>
    by_cases g : ((k + 1 : Nat) : Int) ≤ most
    · have g2 : (k : Int) + 1 ≤ most := by omega
      go_enter Tryd.func38, Tryd.ntmps38
      go_wp2_with (at_builtin; refine Lib.wpList_append_run _ rfl (.tmp 6) (.tmp 8) _ _ rfl _ _ (by rfl) (by rfl) _ _ hrun ?_)
      go_wp2_with fail
      go_ret
      exact ⟨by rw [hd.out]; simp [g2], hJ.out, hK.out⟩
    · have g2 : ¬ (k : Int) + 1 ≤ most := by omega
      go_enter Tryd.func38, Tryd.ntmps38
      go_wp2_with (at_builtin; refine Lib.wpList_append_run _ rfl (.tmp 6) (.tmp 8) _ _ rfl _ _ (by rfl) (by rfl) _ _ hrun ?_)
      go_wp2_with fail
      go_ret
      exact ⟨by rw [hd.out]; simp [g2], hJ.out, hK.out⟩
theorem ev_setV {w : World} {v : Value} {l : List En} {bl : Nat} {a : Option Addr} {n c : Nat} (h : EV entE w v l) (hv : VB w bl SET (.slice a n c)) (u : Value) : EV entE (w.setCell ⟨bl, 0, none⟩ u) v l :=
  h.turn entE_str ((Turn.refl (fun i => i = bl) w).setCell (p := ⟨bl, 0, none⟩) u (fun _ => rfl)) (TF.var (h := (hv : w.heap[bl]? = _)))
/-- What Rows answers of what its closure was handed. -/
def ansR (s : Sp) (es : List En) (most : Int) (back : Bool) : List En := turnB back (goS (dRows back most) [] (inS s es))
theorem ansR_fin (s : Sp) (es : List En) (most : Int) (back : Bool) :
    (ansR s es most back).take (min most.toNat (ansR s es most back).length) = rowsL s es most back ∧ decide (min most.toNat (ansR s es most back).length < (ansR s es most back).length) = rowsM s es most := by
  unfold ansR rowsL rowsM
  rw [in_turn]
  cases back with
  | true =>
    rw [show dRows true most = fun _ => true from funext fun l => by unfold dRows; rfl, goS_all (fun _ => true) (fun _ => rfl), List.nil_append]
    refine ⟨?_, ?_⟩
    · rcases Nat.le_total most.toNat (turnB true (inS s es)).length with h | h
      · rw [Nat.min_eq_left h]
      · rw [Nat.min_eq_right h, List.take_of_length_le (Nat.le_refl _), List.take_of_length_le h]
    · rw [turn_len]
      congr 1
      rw [eq_iff_iff]; omega
  | false =>
    rw [show dRows false most = dFront most from funext fun l => by unfold dRows; rfl, goS_front most _ _ (.inl rfl), List.nil_append]
    have e : ∀ l : List En, turnB false l = l := fun l => by unfold turnB; rfl
    rw [e, e, List.length_take, List.take_take]
    refine ⟨?_, ?_⟩
    · rcases Nat.le_total most.toNat (inS s es).length with h | h
      · congr 1; omega
      · rw [List.take_of_length_le (by omega), List.take_of_length_le h]
    · congr 1
      rw [eq_iff_iff]; omega
set_option maxRecDepth 100000 in
theorem rows_front (p : Option Addr) (n : Int) (es : List En) (H : Nat) (s : Sp) (most : Int) (w : World) (ht : TreeP w p es H) (hl : es.length ≤ 60000) :
    Calls Tryd.prog 27 #[.agg #[.pointer p, .int .i64 n], s.v, .int .i64 most, .bool false] w fun e w' => ∃ u, e = .returned (.tuple #[u, .bool (rowsM s es most)]) ∧ EV entE w' u (rowsL s es most false) ∧ Below w.heap.size w w' := by
  obtain ⟨W, hW, h1, h2, h3, h4, h5, hb, hz⟩ := five_own w #[.pointer p, .int .i64 n] #[.string s.lo, .string s.hi, .bool s.op] #[.int .i64 most] #[.bool false] #[nilS] TT SPT IT BT SET
  have k1 : TB W w.heap.size p n := h1
  have k2 : SpIn W (w.heap.size + 1) SPT s := h2
  have k3 : VB W (w.heap.size + 1 + 1) IT (.int .i64 most) := h3
  have k4 : VB W (w.heap.size + 1 + 1 + 1) BT (.bool false) := h4
  have k5 : VB W (w.heap.size + 1 + 1 + 1 + 1) SET nilS := h5
  have e27 : ∀ args w, (callFunc 38 args).run Tryd.prog w = .ok (.enter 38 args) w := enters_of Tryd.func38 (by kernel_rfl) rfl
  have Hcall := Lib.hid (each_any w p n es H ht hl s _ _ es.length (dRows false most) (RJ w W.heap.size (w.heap.size + 1 + 1 + 1 + 1) (w.heap.size + 1 + 1 + 1) (w.heap.size + 1 + 1) false most) (RJ.ok w _ _ _ _ _ _) e27 (Nat.le_refl _) W
    (rows1_any w W.heap.size (w.heap.size + 1 + 1 + 1 + 1) (w.heap.size + 1 + 1 + 1) (w.heap.size + 1 + 1) es.length false most (by omega) (by omega) (by omega) (by omega) (by omega) (by omega) (by omega))
    ⟨⟨nilS, k5, World.ownsRow_nil _ _ _ _⟩, k4, k3, hb, Nat.le_refl _⟩)
  have hfin := ansR_fin s es most false
  have hA : ansR s es most false = turnB false (goS (dRows false most) [] (inS s es)) := rfl
  have hlen : (goS (dRows false most) [] (inS s es)).length ≤ 60000 := by
    have h := goS_len (dRows false most) (inS s es) []
    have h2 := inS_len s es
    simp at h; omega
  obtain ⟨G, hG⟩ : ∃ G, goS (dRows false most) [] (inS s es) = G := ⟨_, rfl⟩
  rw [hG] at Hcall hA hlen
  obtain ⟨AN, hAN⟩ : ∃ AN, ansR s es most false = AN := ⟨_, rfl⟩
  rw [hAN] at hfin hA
  have hANl : AN.length = G.length := by rw [hA, turn_len]
  have Hfin := Lib.hid hfin
  have HA := Lib.hid hA
  have HW := Lib.hid hW
  have c0 := k1.c0
  have c1 := k1.c1
  have d0 := k2.c0
  have d1 := k2.c1
  have d2 := k2.c2
  rw [← hW] at c0 c1 d0 d1 d2
  have hmf : ∀ (fn : Fn) (first cap : Array Value) (w : World), (Instr.makeFunc fn first cap).run Tryd.prog w = .ok (.func fn first cap) w := fun _ _ _ _ => rfl
  obtain ⟨MT, hMT⟩ : ∃ MT, most.toNat = MT := ⟨_, rfl⟩
  have hmax : max most 0 = (MT : Int) := by omega
  have hmax2 : (if most < 0 then (0 : Int) else most) = (MT : Int) := by split <;> omega
  obtain ⟨LL, hLL⟩ : ∃ LL, AN.length = LL := ⟨_, rfl⟩
  obtain ⟨NN, hNN⟩ : ∃ NN, min MT LL = NN := ⟨_, rfl⟩
  have hmin : min (MT : Int) (LL : Int) = (NN : Int) := by omega
  have hNL : NN ≤ LL := by omega
  have hLL6 : LL ≤ 60000 := by omega
  have HLL := Lib.hid hLL
  rw [hMT, hLL, hNN] at Hfin
  have hGl : G.length = LL := by omega
  have HGl := Lib.hid hGl
  unfold Sp.v at Hcall ⊢
  clear hW h1 h2 h3 h4 h5 hb hz k1 k2 k3 k4 k5 ht hfin hA hAN hG hANl hLL hGl hlen
  have Hmt := Lib.hid hMT
  clear hMT
  go_enter Tryd.func27, Tryd.ntmps27
  go_wp2_with fail
  rw [HW.out]
  refine Hcall.out.mono ?_
  rintro e w2 ⟨rfl, hj⟩
  obtain ⟨⟨v, hv, hown⟩, hbk, hmo, hb2, _⟩ := hj
  have hev : EV entE w2 v G := own_ev hown
  obtain ⟨a0, c0x, rfl, hs0, hz0⟩ := hev
  have hlb : w.heap.size + 1 + 1 + 1 + 1 < w2.heap.size := hv.lt
  have b0 := hbk.c0
  have x0 := hv.c0
  rw [HGl.out] at x0
  clear Hcall c0 c1 d0 d1 d2
  have eAN : AN = G := by rw [HA.out]; rfl
  have hv4 : VB w2 (w.heap.size + 1 + 1 + 1 + 1) SET (.slice a0 LL c0x) := by rw [← HGl.out]; exact hv
  have hs4 : ES entE w2 a0 AN := by rw [eAN]; exact hs0
  have hz4 : (a0 = none → c0x = 0) ∧ LL ≤ c0x ∧ c0x ≤ maxLen := ⟨hz0.1, by rw [← HGl.out]; exact hz0.2.1, hz0.2.2⟩
  have hb4 := hb2
  have x4 := x0
  have m4 := hmo.c0
  clear hv hown hbk hmo hb2 hs0 hz0 hlb eAN
  go_wp2_with fail
  obtain ⟨W2, hW2⟩ : ∃ W2, w2.drew = W2 := ⟨_, rfl⟩
  have hbd : Below w2.heap.size w2 W2 := by rw [← hW2]; exact (Below.refl _ _).drew
  have q0 : ∀ w', Ext W2 w' → w'.cell? ⟨w.heap.size + 1 + 1 + 1 + 1, 0, none⟩ = some (.slice a0 LL c0x) := fun w' hx => ((hv4.ext hbd).ext hx).c0
  have i1 : (0 : Int) ≤ (NN : Int) := by omega
  have hLc : LL ≤ c0x := by have := hz4.2.1; omega
  have i2 : (NN : Int) ≤ (c0x : Int) := by omega
  have i3 : (NN : Int) ≤ (LL : Int) := by omega
  have j1 : NN ≤ c0x := by omega
  have j2 : NN ≤ LL := by omega
  have hc3 : c0x ≤ 9223372036854775807 := by have := hz4.2.2; unfold maxLen at this; omega
  have z0 : IntKind.i64.wrap (NN : Int) = (NN : Int) := by rw [IntKind.wrap_i64]; omega
  have Hfin2 : Hid (EV entE W2 (.slice a0 NN NN) (rowsL s es most false)) := by
    rw [← Hfin.out.1]
    have ht : (AN.take NN).length = NN := by rw [List.length_take]; have := HLL.out; omega
    refine ⟨a0, NN, by rw [ht], (hs4.below hbd (Nat.le_refl _)).take NN, fun h => ?_, by rw [ht]; exact Nat.le_refl _, by unfold maxLen; omega⟩
    have := hz4.1 h
    omega
  have HB := Lib.hid (hb4.trans (hbd.mono hb4.size))
  have HW2 := Lib.hid hW2
  have HD : Hid (rowsM s es most = decide (NN < LL)) := Hfin.out.2.symm
  clear hv4 hs4 hb4 hz4 hbd hW2 x4 m4
  go_wp2_with fail
  refine wp_region_gr [(0, true), (1, true), (2, true), (3, true), (4, true), (5, true), (6, true), (7, true), (8, true), (9, true)] (by kernel_rfl) (by kernel_rfl) (by kernel_rfl) (by kernel_rfl) (fun _ _ _ _ _ h => h) ?_
  rw [HW2.out]
  iterate 10 (refine wpGr_read (o := ⟨_, _, _, _, _, _⟩) (v := ?_) rfl (by rfl) ?_ ?_; rotate_left; (intro w' hw'; go_simp; with_reducible rfl); simp only [Act.put, List.setIfInBounds_toArray, List.set_cons_zero, List.set_cons_succ])
  refine wpGr_done ?_
  clear q0
  go_wp2_with fail
  go_ret2
  exact ⟨_, by rw [HD.out]; rfl, Hfin2.out, HB.out⟩
set_option maxRecDepth 100000 in
theorem rows_back (p : Option Addr) (n : Int) (es : List En) (H : Nat) (s : Sp) (most : Int) (w : World) (ht : TreeP w p es H) (hl : es.length ≤ 60000) :
    Calls Tryd.prog 27 #[.agg #[.pointer p, .int .i64 n], s.v, .int .i64 most, .bool true] w fun e w' => ∃ u, e = .returned (.tuple #[u, .bool (rowsM s es most)]) ∧ EV entE w' u (rowsL s es most true) ∧ Below w.heap.size w w' := by
  obtain ⟨W, hW, h1, h2, h3, h4, h5, hb, hz⟩ := five_own w #[.pointer p, .int .i64 n] #[.string s.lo, .string s.hi, .bool s.op] #[.int .i64 most] #[.bool true] #[nilS] TT SPT IT BT SET
  have k1 : TB W w.heap.size p n := h1
  have k2 : SpIn W (w.heap.size + 1) SPT s := h2
  have k3 : VB W (w.heap.size + 1 + 1) IT (.int .i64 most) := h3
  have k4 : VB W (w.heap.size + 1 + 1 + 1) BT (.bool true) := h4
  have k5 : VB W (w.heap.size + 1 + 1 + 1 + 1) SET nilS := h5
  have e27 : ∀ args w, (callFunc 38 args).run Tryd.prog w = .ok (.enter 38 args) w := enters_of Tryd.func38 (by kernel_rfl) rfl
  have Hcall := Lib.hid (each_any w p n es H ht hl s _ _ es.length (dRows true most) (RJ w W.heap.size (w.heap.size + 1 + 1 + 1 + 1) (w.heap.size + 1 + 1 + 1) (w.heap.size + 1 + 1) true most) (RJ.ok w _ _ _ _ _ _) e27 (Nat.le_refl _) W
    (rows1_any w W.heap.size (w.heap.size + 1 + 1 + 1 + 1) (w.heap.size + 1 + 1 + 1) (w.heap.size + 1 + 1) es.length true most (by omega) (by omega) (by omega) (by omega) (by omega) (by omega) (by omega))
    ⟨⟨nilS, k5, World.ownsRow_nil _ _ _ _⟩, k4, k3, hb, Nat.le_refl _⟩)
  have hfin := ansR_fin s es most true
  have hA : ansR s es most true = turnB true (goS (dRows true most) [] (inS s es)) := rfl
  have hlen : (goS (dRows true most) [] (inS s es)).length ≤ 60000 := by
    have h := goS_len (dRows true most) (inS s es) []
    have h2 := inS_len s es
    simp at h; omega
  obtain ⟨G, hG⟩ : ∃ G, goS (dRows true most) [] (inS s es) = G := ⟨_, rfl⟩
  rw [hG] at Hcall hA hlen
  obtain ⟨AN, hAN⟩ : ∃ AN, ansR s es most true = AN := ⟨_, rfl⟩
  rw [hAN] at hfin hA
  have hANl : AN.length = G.length := by rw [hA, turn_len]
  have Hfin := Lib.hid hfin
  have HA := Lib.hid hA
  have HW := Lib.hid hW
  have c0 := k1.c0
  have c1 := k1.c1
  have d0 := k2.c0
  have d1 := k2.c1
  have d2 := k2.c2
  rw [← hW] at c0 c1 d0 d1 d2
  have hmf : ∀ (fn : Fn) (first cap : Array Value) (w : World), (Instr.makeFunc fn first cap).run Tryd.prog w = .ok (.func fn first cap) w := fun _ _ _ _ => rfl
  obtain ⟨MT, hMT⟩ : ∃ MT, most.toNat = MT := ⟨_, rfl⟩
  have hmax : max most 0 = (MT : Int) := by omega
  have hmax2 : (if most < 0 then (0 : Int) else most) = (MT : Int) := by split <;> omega
  obtain ⟨LL, hLL⟩ : ∃ LL, AN.length = LL := ⟨_, rfl⟩
  obtain ⟨NN, hNN⟩ : ∃ NN, min MT LL = NN := ⟨_, rfl⟩
  have hmin : min (MT : Int) (LL : Int) = (NN : Int) := by omega
  have hNL : NN ≤ LL := by omega
  have hLL6 : LL ≤ 60000 := by omega
  have HLL := Lib.hid hLL
  rw [hMT, hLL, hNN] at Hfin
  have hGl : G.length = LL := by omega
  have HGl := Lib.hid hGl
  unfold Sp.v at Hcall ⊢
  clear hW h1 h2 h3 h4 h5 hb hz k1 k2 k3 k4 k5 ht hfin hA hAN hG hANl hLL hGl hlen
  have Hmt := Lib.hid hMT
  clear hMT
  go_enter Tryd.func27, Tryd.ntmps27
  go_wp2_with fail
  rw [HW.out]
  refine Hcall.out.mono ?_
  rintro e w2 ⟨rfl, hj⟩
  obtain ⟨⟨v, hv, hown⟩, hbk, hmo, hb2, _⟩ := hj
  have hev : EV entE w2 v G := own_ev hown
  obtain ⟨a0, c0x, rfl, hs0, hz0⟩ := hev
  have hlb : w.heap.size + 1 + 1 + 1 + 1 < w2.heap.size := hv.lt
  have b0 := hbk.c0
  have x0 := hv.c0
  rw [HGl.out] at x0
  clear Hcall c0 c1 d0 d1 d2
  have Htu := Lib.hid (turned_any a0 LL c0x G w2 HGl.out hs0 hLL6)
  have Hv := Lib.hid (And.intro hv hmo)
  have Hb2 := Lib.hid hb2
  clear hv hown hbk hmo hb2 hs0 hz0
  go_wp2_with fail
  refine Htu.out.mono ?_
  rintro e w3 ⟨u, rfl, hev3, hb3⟩
  have v3 := Hv.out.1.ext hb3
  have m3 := Hv.out.2.ext hb3
  have hb23 := Hb2.out.trans (hb3.mono Hb2.out.size)
  obtain ⟨a3, c3, hu, hs3, hz3⟩ := hev3
  rw [List.length_reverse, HGl.out] at hu
  have hevx := ev_setV (bl := w.heap.size + 1 + 1 + 1 + 1) (show EV entE w3 u G.reverse from ⟨a3, c3, by rw [List.length_reverse, HGl.out]; exact hu, hs3, hz3⟩) v3 u
  have y0 := v3.c0
  have f0 := v3.fz 0
  subst hu
  obtain ⟨w4, hw4⟩ : ∃ w4, w3.setCell ⟨w.heap.size + 1 + 1 + 1 + 1, 0, none⟩ (.slice a3 LL c3) = w4 := ⟨_, rfl⟩
  have hv4 := v3.put (.slice a3 LL c3)
  have m4v : VB (w3.setCell ⟨w.heap.size + 1 + 1 + 1 + 1, 0, none⟩ (.slice a3 LL c3)) (w.heap.size + 1 + 1) IT (.int .i64 most) := by
    unfold VB; rw [heap_setCell_other _ _ _ _ (by simp)]; exact m3
  have hb4 : Below w.heap.size w (w3.setCell ⟨w.heap.size + 1 + 1 + 1 + 1, 0, none⟩ (.slice a3 LL c3)) := hb23.setCell (by dsimp only; omega) _
  have x4 := hv4.c0
  have m4 := m4v.c0
  have eAN : AN = G.reverse := by rw [HA.out]; rfl
  rw [hw4] at hv4 hb4 hevx
  have hs4 : ES entE w4 a3 AN := by
    obtain ⟨a9, c9, h9, hs9, _⟩ := hevx
    injection h9 with h9
    rw [eAN, h9]; exact hs9
  have hz4 : (a3 = none → c3 = 0) ∧ LL ≤ c3 ∧ c3 ≤ maxLen := by
    refine ⟨hz3.1, ?_, hz3.2.2⟩
    have := hz3.2.1
    rw [List.length_reverse, HGl.out] at this; exact this
  have HW4 := Lib.hid hw4
  clear hs3 hz3 hb3 v3 m3 hb23 hevx m4v eAN hw4 Htu x0 b0 hlb
  go_wp2_with fail
  rw [HW4.out]
  obtain ⟨W2, hW2⟩ : ∃ W2, w4.drew = W2 := ⟨_, rfl⟩
  have hbd : Below w4.heap.size w4 W2 := by rw [← hW2]; exact (Below.refl _ _).drew
  have q0 : ∀ w', Ext W2 w' → w'.cell? ⟨w.heap.size + 1 + 1 + 1 + 1, 0, none⟩ = some (.slice a3 LL c3) := fun w' hx => ((hv4.ext hbd).ext hx).c0
  have i1 : (0 : Int) ≤ (NN : Int) := by omega
  have hLc : LL ≤ c3 := by have := hz4.2.1; omega
  have i2 : (NN : Int) ≤ (c3 : Int) := by omega
  have i3 : (NN : Int) ≤ (LL : Int) := by omega
  have j1 : NN ≤ c3 := by omega
  have j2 : NN ≤ LL := by omega
  have hc3 : c3 ≤ 9223372036854775807 := by have := hz4.2.2; unfold maxLen at this; omega
  have z0 : IntKind.i64.wrap (NN : Int) = (NN : Int) := by rw [IntKind.wrap_i64]; omega
  have Hfin2 : Hid (EV entE W2 (.slice a3 NN NN) (rowsL s es most true)) := by
    rw [← Hfin.out.1]
    have ht : (AN.take NN).length = NN := by rw [List.length_take]; have := HLL.out; omega
    refine ⟨a3, NN, by rw [ht], (hs4.below hbd (Nat.le_refl _)).take NN, fun h => ?_, by rw [ht]; exact Nat.le_refl _, by unfold maxLen; omega⟩
    have := hz4.1 h
    omega
  have HB := Lib.hid (hb4.trans (hbd.mono hb4.size))
  have HW2 := Lib.hid hW2
  have HD : Hid (rowsM s es most = decide (NN < LL)) := Hfin.out.2.symm
  clear hv4 hs4 hb4 hz4 hbd hW2 x4 m4
  go_wp2_with fail
  refine wp_region_gr [(0, true), (1, true), (2, true), (3, true), (4, true), (5, true), (6, true), (7, true), (8, true), (9, true)] (by kernel_rfl) (by kernel_rfl) (by kernel_rfl) (by kernel_rfl) (fun _ _ _ _ _ h => h) ?_
  rw [HW2.out]
  iterate 10 (refine wpGr_read (o := ⟨_, _, _, _, _, _⟩) (v := ?_) rfl (by rfl) ?_ ?_; rotate_left; (intro w' hw'; go_simp; with_reducible rfl); simp only [Act.put, List.setIfInBounds_toArray, List.set_cons_zero, List.set_cons_succ])
  refine wpGr_done ?_
  clear q0
  go_wp2_with fail
  go_ret2
  exact ⟨_, by rw [HD.out]; rfl, Hfin2.out, HB.out⟩
theorem rows_any (p : Option Addr) (n : Int) (es : List En) (H : Nat) (s : Sp) (most : Int) (back : Bool) (w : World) (ht : TreeP w p es H) (hl : es.length ≤ 60000) :
    Calls Tryd.prog 27 #[.agg #[.pointer p, .int .i64 n], s.v, .int .i64 most, .bool back] w fun e w' => ∃ u, e = .returned (.tuple #[u, .bool (rowsM s es most)]) ∧ EV entE w' u (rowsL s es most back) ∧ Below w.heap.size w w' := by
  cases back with
  | false => exact rows_front p n es H s most w ht hl
  | true => exact rows_back p n es H s most w ht hl
end Go.Proofs.YtggibbgohhpfpaaDoor
