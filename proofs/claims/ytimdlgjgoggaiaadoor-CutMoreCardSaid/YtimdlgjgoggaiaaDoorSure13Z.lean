/-
  The law's sure.
-/
import Derived.Test.YtimdlgjgoggaiaaDoorCRowsZ
import Derived.Test.YtimdlgjgoggaiaaDoorRemoveZ
import Derived.Test.YtimdlgjgoggaiaaDoorBlocksZ
import Derived.Test.YtimdlgjgoggaiaaDoorGrownZ
import Derived.Test.YtimdlgjgoggaiaaDoorKOfZ
import Derived.Test.YtimdlgjgoggaiaaDoorAbcZ
import Derived.Test.YtimdlgjgoggaiaaDoorGsZ
import Derived.Deep.Cut
namespace Go.Proofs.YtimdlgjgoggaiaaDoor
open Go Go.RowKit Go.Shelf

abbrev L3 : List En := [⟨xa, xn, []⟩, ⟨xb, xn, []⟩, ⟨xc, xx, []⟩]
abbrev L2 : List En := [⟨xa, xn, []⟩, ⟨xc, xx, []⟩]
abbrev spB : Sp := ⟨xb, xn, true⟩
abbrev spO : Sp := ⟨xb, xc, false⟩
theorem sf_of : ofT [] L3 = (L3, 0) := by
  have h1 := tp_ok13 (es := []) (key := xa) (v := xn) rfl (by decide) (by decide)
  have h2 := tp_ok13 (es := [⟨xa, xn, []⟩]) (key := xb) (v := xn) rfl (by decide) (by decide)
  have h3 := tp_ok13 (es := [⟨xa, xn, []⟩, ⟨xb, xn, []⟩]) (key := xc) (v := xx) rfl (by decide) (by decide)
  have e1 : rep [] xa [⟨xa, xn, []⟩] = [⟨xa, xn, []⟩] := rfl
  have e2 : rep [⟨xa, xn, []⟩] xb [⟨xb, xn, []⟩] = [⟨xa, xn, []⟩, ⟨xb, xn, []⟩] := by
    have f : fE [⟨xa, xn, []⟩] xb = 1 := by simp [fE, b_ab]
    have g : isE [⟨xa, xn, []⟩] xb = false := by simp [isE, b_ab]
    unfold rep goneE; rw [f, g]; rfl
  have e3 : rep [⟨xa, xn, []⟩, ⟨xb, xn, []⟩] xc [⟨xc, xx, []⟩] = L3 := by
    have f : fE [⟨xa, xn, []⟩, ⟨xb, xn, []⟩] xc = 2 := by simp [fE, b_ac, b_bc]
    have g : isE [⟨xa, xn, []⟩, ⟨xb, xn, []⟩] xc = false := by simp [isE, b_ac, b_bc]
    unfold rep goneE; rw [f, g]; rfl
  rw [e1] at h1
  rw [e2] at h2
  rw [e3] at h3
  simp only [ofT]
  rw [if_pos h1.1, h1.2, if_pos h2.1, h2.2, if_pos h3.1, h3.2]
theorem sf_rows : rowsL spB L3 1 true = [⟨xc, xx, []⟩] ∧ rowsM spB L3 1 = true := by
  constructor
  · simp [rowsL, inS, turnB, hasS, b_ab, b_cb, blt_self]
  · simp [rowsM, inS, hasS, b_ab, b_cb, blt_self]
theorem sf_o : ofS xb = spO := by
  have : nxt (bl xb) = some [99] := by decide
  rw [ofS_cut this]; rfl
theorem sf_rem : outS spO L3 = L2 ∧ (inS spO L3).length = 1 := by
  constructor
  · simp [outS, hasS, b_ab, b_bc, b_cb, blt_self]
  · simp [inS, hasS, b_ab, b_bc, b_cb, blt_self]
theorem sf_first : endL spB L2 false = [⟨xc, xx, []⟩] := by simp [endL, turnB, inS, hasS, b_ab, b_cb]
theorem sf_last : endL spO L2 true = [] := by simp [endL, turnB, inS, hasS, b_ab, b_cb, blt_self]
theorem sf_all : (inS spA L3).length = 3 := by simp [inS, hasS, b_an, b_bn, b_cn]
theorem alloc_tree13 (w : World) : ∃ b W, w.heap.size = b ∧ w.alloc (.cells #[.pointer none, .int .i64 0] TT) = W ∧ TB W b none 0 ∧ Below w.heap.size w W := by
  obtain ⟨W, hW, h, hb⟩ := alloc_own w TT #[.pointer none, .int .i64 0]
  exact ⟨_, W, rfl, hW, h, hb⟩
theorem alloc_ent13 (w : World) : ∃ b W, w.heap.size = b ∧ w.alloc (.cells #[.string ⟨#[]⟩, .string ⟨#[]⟩] ET) = W ∧ EB W b E0 ∧ Below w.heap.size w W := by
  obtain ⟨W, hW, h, hb⟩ := alloc_own w ET #[.string ⟨#[]⟩, .string ⟨#[]⟩]
  exact ⟨_, W, rfl, hW, h, hb⟩
/-- What stands behind the first calls: the tree, its last entry. -/
structure SuX (w0 w : World) (bt : Nat) (p : Option Addr) (H : Nat) (av : Option Addr) : Prop where
  t : TB w bt p 3
  tr : TreeP w p L3 H
  l : ES entE w av [⟨xc, xx, []⟩]
  b : Below w0.heap.size w0 w
theorem SuX.ext {w0 w w' : World} {bt H : Nat} {p av : Option Addr} (h : SuX w0 w bt p H av) (hb : Below w.heap.size w w') : SuX w0 w' bt p H av :=
  ⟨h.t.ext hb, h.tr.ext hb, h.l.below hb (Nat.le_refl _), h.b.trans (hb.mono h.b.size)⟩
/-- Behind the removal: the other tree too. -/
structure SuY (w0 w : World) (bt : Nat) (p : Option Addr) (H : Nat) (av : Option Addr) (bu : Nat) (q : Option Addr) (G : Nat) : Prop where
  x : SuX w0 w bt p H av
  u : TB w bu q 2
  ur : TreeP w q L2 G
theorem SuY.ext {w0 w w' : World} {bt H : Nat} {p av : Option Addr} {bu G : Nat} {q : Option Addr} (h : SuY w0 w bt p H av bu q G) (hb : Below w.heap.size w w') : SuY w0 w' bt p H av bu q G :=
  ⟨h.x.ext hb, h.u.ext hb, h.ur.ext hb⟩
set_option maxRecDepth 100000 in
theorem sure_any (w : World) (hg : Hg w) : Calls Tryd.prog 7 #[] w fun e w' => e = .returned (.bool true) ∧ Below w.heap.size w w' := by
  have Hg0 : Hid (∀ {w'}, Below w.heap.size w w' → Hg w') := fun h => hg.below h
  obtain ⟨W1, hW1, hn1, hb1⟩ := alloc_own w ET #[.string xa, .string xn, .string xb, .string xn, .string xc, .string xx]
  have hlit : ES entE W1 (some ⟨w.heap.size, 0, none⟩) L3 := ES.lit (E := entE) (l := L3) hn1
  have hof := of_any (some ⟨w.heap.size, 0, none⟩) 3 3 L3 W1 rfl (fun _ => hlit.loose) (by decide)
  rw [sf_of] at hof
  have Hof := Lib.hid hof
  have HW1 := Lib.hid hW1
  have HB1 := Lib.hid hb1
  have Ho := Lib.hid (fun (x : World) => kof_any xb x (by decide))
  clear hW1 hn1 hb1 hlit hof hg
  go_enter Tryd.func7, Tryd.ntmps7
  go_wp2_with fail
  rw [HW1.out]
  refine Hof.out.mono ?_
  rintro e w2 ⟨p, H, rfl, ht, hb2⟩
  rw [show errC ((0 : Nat) : Int) = .nilIface from rfl, show ((L3.length : Nat) : Int) = 3 from rfl]
  obtain ⟨W2, hW2, hT2, hbW2⟩ := alloc_own w2 TT #[.pointer p, .int .i64 3]
  obtain ⟨bt, hbt⟩ : ∃ bt, w2.heap.size = bt := ⟨_, rfl⟩
  rw [hbt] at hT2
  have HT2 : Hid (TB W2 bt p 3) := hT2
  have hb12 := HB1.out.trans (hb2.mono HB1.out.size)
  have HB2 := Lib.hid (hb12.trans (hbW2.mono hb12.size))
  have HR2 := Lib.hid (ht.ext hbW2)
  have hrows := rows_any p 3 L3 H spB 1 true W2 HR2.out (by decide)
  rw [sf_rows.1, sf_rows.2] at hrows
  have Hrows := Lib.hid hrows
  have HW2 := Lib.hid hW2
  have Hbt := Lib.hid hbt
  clear hW2 hT2 hbW2 hb12 hb2 ht hrows Hof HB1 hbt
  go_wp2_with fail
  rw [HW2.out, Hbt.out]
  refine Hrows.out.mono ?_
  rintro e w3 ⟨u, rfl, hev, hb3⟩
  obtain ⟨av, cv, rfl, hs3, _⟩ := hev
  rw [show ([⟨xc, xx, []⟩] : List En).length = 1 from rfl]
  have HX : Hid (SuX w w3 bt p H av) := ⟨HT2.out.ext hb3, HR2.out.ext hb3, hs3, HB2.out.trans (hb3.mono HB2.out.size)⟩
  clear hs3 hb3 Hrows HT2 HR2 HB2 HW2 Hbt
  go_upto_region 3 with fail
  go_cut [5, 6] from 11 (fun u n wx => ∃ (bu : Nat) (q : Option Addr) (G : Nat), u = .pointer (some ⟨bu, 0, none⟩) ∧ n = .int .i64 1 ∧ Hid (SuY w wx bt p H av bu q G))
  case first =>
    obtain ⟨W, hW⟩ : ∃ W, w3.drew = W := ⟨_, rfl⟩
    have hbd : Below w3.heap.size w3 W := by rw [← hW]; exact (Below.refl _ _).drew
    have XW := Lib.hid (HX.out.ext hbd)
    have q1 : ∀ w', Turn (fun _ => False) W w' → w'.cell? ⟨bt, 0, none⟩ = some (.pointer p) := fun w' t => (XW.out.t.turn t (fun h => h)).c0
    have q2 : ∀ w', Turn (fun _ => False) W w' → w'.cell? ⟨bt, 1, none⟩ = some (.int .i64 3) := fun w' t => (XW.out.t.turn t (fun h => h)).c1
    have hrem : ∀ x, SuX w x bt p H av → Calls Tryd.prog 11 #[.agg #[.pointer p, .int .i64 3], spO.v] x fun e w' => ∃ q G, e = .returned (.tuple #[.agg #[.pointer q, .int .i64 2], .int .i64 1]) ∧ TreeP w' q L2 G ∧ Below x.heap.size x w' := fun x hx => by
      have h := remove_any p L3 H spO x hx.tr (by decide)
      rw [sf_rem.1, sf_rem.2] at h
      exact h
    have Hrem := Lib.hid hrem
    have HW := Lib.hid hW
    clear hW hbd hrem HX
    refine wp_region_gx (fun _ => False) (.rd 0 (.two 1 (.two 2 (.rd 3 (.rd 4 (.rd 5 (.call 6 (.call 7 (.rd 8 .done)))))) 6 (.call 2 (.rd 3 (.rd 4 (.rd 5 (.call 7 (.rd 8 .done))))))) 6 (.call 1 (.call 2 (.rd 3 (.rd 4 (.rd 5 (.call 7 (.rd 8 .done))))))))) (by kernel_rfl) (by kernel_rfl) (by kernel_rfl) (by kernel_rfl) (fun _ _ _ _ _ h => h) ?_
    rw [HW.out]
    clear HW
    (refine wpGx_read (o := ⟨_, _, _, _, _, _⟩) (v := ?_) rfl (by rfl) ?_ ?_; rotate_left; (intro w' hw'; go_simp; with_reducible rfl); simp only [Act.put, List.setIfInBounds_toArray, List.set_cons_zero, List.set_cons_succ])
    clear q1 q2
    refine ⟨?_, ?_⟩
    · refine stepX_call (o := ⟨_, _, _, _, _, _⟩) rfl (by rfl) (fun K hK => ?_)
      go_simp
      refine (Ho.out W).mono ?_
      rintro e wo ⟨rfl, hb⟩
      rw [sf_o]
      refine hK (fun _ => False) (fun _ h _ => h) _ _ (Turn.ofBelow hb) ?_
      clear hK K
      have XXWO1 := Lib.hid (XW.out.ext hb)
      clear hb
      refine ⟨?_, ?_⟩
      · refine stepX_call (o := ⟨_, _, _, _, _, _⟩) rfl (by rfl) (fun K hK => ?_)
        go_simp
        refine (Hrem.out wo XXWO1.out).mono ?_
        rintro e wr ⟨q, G, rfl, htq, hb⟩
        refine hK (fun _ => False) (fun _ h _ => h) _ _ (Turn.ofBelow hb) ?_
        clear hK K
        have XXXWO1R1 := Lib.hid (XXWO1.out.ext hb)
        have Rq := Lib.hid htq
        clear htq
        clear hb
        iterate 3 (refine wpGx_read (o := ⟨_, _, _, _, _, _⟩) (v := ?_) rfl (by rfl) ?_ ?_; rotate_left; (intro w' hw'; go_simp; with_reducible rfl); simp only [Act.put, List.setIfInBounds_toArray, List.set_cons_zero, List.set_cons_succ])
        obtain ⟨b, wa, hb0, hwa, htn, hb⟩ := alloc_tree13 wr
        have HG := Lib.hid (And.intro hb0 hwa)
        have Hb := Lib.hid hb
        have Tn := Lib.hid htn
        have XXXXWO1R1A2 := Lib.hid (XXXWO1R1.out.ext hb)
        have hbw2 : ¬ b < wr.heap.size := by omega
        have hbt : b ≠ bt := by have := XXXWO1R1.out.t.lt; omega
        have hlo : w.heap.size ≤ b := by have := XXXWO1R1.out.b.size; omega
        replace Rq := Lib.hid (Rq.out.ext hb)
        clear hb0 hwa htn hb
        refine stepX_call (o := ⟨_, _, _, _, _, _⟩) rfl (by rfl) (fun K hK => ?_)
        go_simp
        rw [HG.out.1, HG.out.2]
        refine hK (fun i => i = b) (fun j h hj => absurd hj (by omega)) _ _ (Turn.ofBelow Hb.out) ?_
        clear hK K HG Hb hbw2
        have r0 := Tn.out.c0
        have r1 := Tn.out.c1
        have r2 := Tn.out.fz 0
        have r3 := Tn.out.fz 1
        refine stepX_call (o := ⟨_, _, _, _, _, _⟩) rfl (by rfl) (fun K hK => ?_)
        go_simp
        refine hK (fun _ => False) (fun _ h => h.elim) _ _ (turn_put _ _ _ _) ?_
        clear hK K r0 r1 r2 r3
        iterate 1 (refine wpGx_read (o := ⟨_, _, _, _, _, _⟩) (v := ?_) rfl (by rfl) ?_ ?_; rotate_left; (intro w' hw'; go_simp; with_reducible rfl); simp only [Act.put, List.setIfInBounds_toArray, List.set_cons_zero, List.set_cons_succ])
        refine wpGx_done ?_
        have tp := turn_put wa b (.pointer q) (.int .i64 2)
        have hY : SuY w ((wa.setCell ⟨b, 0, none⟩ (.pointer q)).setCell ⟨b, 1, none⟩ (.int .i64 2)) bt p H av b q G := ⟨⟨XXXXWO1R1A2.out.t.turn tp (by omega), XXXXWO1R1A2.out.tr.turn tp (TF.one Tn.out), XXXXWO1R1A2.out.l.turn entE_str tp (TF.one Tn.out), below_put XXXXWO1R1A2.out.b hlo⟩, Tn.out.put q 2, Rq.out.turn tp (TF.one Tn.out)⟩
        go_wp2
        go_meet
        exact ⟨b, q, G, rfl, rfl, hY⟩
      · obtain ⟨b, wa, hb0, hwa, htn, hb⟩ := alloc_tree13 wo
        have HG := Lib.hid (And.intro hb0 hwa)
        have Hb := Lib.hid hb
        have Tn := Lib.hid htn
        have XXXWO1A1 := Lib.hid (XXWO1.out.ext hb)
        have hbw2 : ¬ b < wo.heap.size := by omega
        have hbt : b ≠ bt := by have := XXWO1.out.t.lt; omega
        have hlo : w.heap.size ≤ b := by have := XXWO1.out.b.size; omega
        clear hb0 hwa htn hb
        refine stepX_call (o := ⟨_, _, _, _, _, _⟩) rfl (by rfl) (fun K hK => ?_)
        go_simp
        rw [HG.out.1, HG.out.2]
        refine hK (fun i => i = b) (fun j h hj => absurd hj (by omega)) _ _ (Turn.ofBelow Hb.out) ?_
        clear hK K HG Hb hbw2
        refine stepX_call (o := ⟨_, _, _, _, _, _⟩) rfl (by rfl) (fun K hK => ?_)
        go_simp
        refine (Hrem.out wa XXXWO1A1.out).mono ?_
        rintro e wr ⟨q, G, rfl, htq, hb⟩
        refine hK (fun i => i = b) (fun _ h _ => h) _ _ (Turn.ofBelow hb) ?_
        clear hK K
        have XXXXWO1A1R2 := Lib.hid (XXXWO1A1.out.ext hb)
        have Rq := Lib.hid htq
        clear htq
        have Tn2 := Lib.hid (Tn.out.ext hb)
        replace Tn := Tn2
        clear Tn2
        clear hb
        iterate 3 (refine wpGx_read (o := ⟨_, _, _, _, _, _⟩) (v := ?_) rfl (by rfl) ?_ ?_; rotate_left; (intro w' hw'; go_simp; with_reducible rfl); simp only [Act.put, List.setIfInBounds_toArray, List.set_cons_zero, List.set_cons_succ])
        have r0 := Tn.out.c0
        have r1 := Tn.out.c1
        have r2 := Tn.out.fz 0
        have r3 := Tn.out.fz 1
        refine stepX_call (o := ⟨_, _, _, _, _, _⟩) rfl (by rfl) (fun K hK => ?_)
        go_simp
        refine hK (fun _ => False) (fun _ h => h.elim) _ _ (turn_put _ _ _ _) ?_
        clear hK K r0 r1 r2 r3
        iterate 1 (refine wpGx_read (o := ⟨_, _, _, _, _, _⟩) (v := ?_) rfl (by rfl) ?_ ?_; rotate_left; (intro w' hw'; go_simp; with_reducible rfl); simp only [Act.put, List.setIfInBounds_toArray, List.set_cons_zero, List.set_cons_succ])
        refine wpGx_done ?_
        have tp := turn_put wr b (.pointer q) (.int .i64 2)
        have hY : SuY w ((wr.setCell ⟨b, 0, none⟩ (.pointer q)).setCell ⟨b, 1, none⟩ (.int .i64 2)) bt p H av b q G := ⟨⟨XXXXWO1A1R2.out.t.turn tp (by omega), XXXXWO1A1R2.out.tr.turn tp (TF.one Tn.out), XXXXWO1A1R2.out.l.turn entE_str tp (TF.one Tn.out), below_put XXXXWO1A1R2.out.b hlo⟩, Tn.out.put q 2, Rq.out.turn tp (TF.one Tn.out)⟩
        go_wp2
        go_meet
        exact ⟨b, q, G, rfl, rfl, hY⟩
    · obtain ⟨b, wa, hb0, hwa, htn, hb⟩ := alloc_tree13 W
      have HG := Lib.hid (And.intro hb0 hwa)
      have Hb := Lib.hid hb
      have Tn := Lib.hid htn
      have XXWA1 := Lib.hid (XW.out.ext hb)
      have hbw2 : ¬ b < W.heap.size := by omega
      have hbt : b ≠ bt := by have := XW.out.t.lt; omega
      have hlo : w.heap.size ≤ b := by have := XW.out.b.size; omega
      clear hb0 hwa htn hb
      refine stepX_call (o := ⟨_, _, _, _, _, _⟩) rfl (by rfl) (fun K hK => ?_)
      go_simp
      rw [HG.out.1, HG.out.2]
      refine hK (fun i => i = b) (fun j h hj => absurd hj (by omega)) _ _ (Turn.ofBelow Hb.out) ?_
      clear hK K HG Hb hbw2
      refine stepX_call (o := ⟨_, _, _, _, _, _⟩) rfl (by rfl) (fun K hK => ?_)
      go_simp
      refine (Ho.out wa).mono ?_
      rintro e wo ⟨rfl, hb⟩
      rw [sf_o]
      refine hK (fun i => i = b) (fun _ h _ => h) _ _ (Turn.ofBelow hb) ?_
      clear hK K
      have XXXWA1O2 := Lib.hid (XXWA1.out.ext hb)
      have Tn2 := Lib.hid (Tn.out.ext hb)
      replace Tn := Tn2
      clear Tn2
      clear hb
      refine stepX_call (o := ⟨_, _, _, _, _, _⟩) rfl (by rfl) (fun K hK => ?_)
      go_simp
      refine (Hrem.out wo XXXWA1O2.out).mono ?_
      rintro e wr ⟨q, G, rfl, htq, hb⟩
      refine hK (fun i => i = b) (fun _ h _ => h) _ _ (Turn.ofBelow hb) ?_
      clear hK K
      have XXXXWA1O2R3 := Lib.hid (XXXWA1O2.out.ext hb)
      have Rq := Lib.hid htq
      clear htq
      have Tn2 := Lib.hid (Tn.out.ext hb)
      replace Tn := Tn2
      clear Tn2
      clear hb
      iterate 3 (refine wpGx_read (o := ⟨_, _, _, _, _, _⟩) (v := ?_) rfl (by rfl) ?_ ?_; rotate_left; (intro w' hw'; go_simp; with_reducible rfl); simp only [Act.put, List.setIfInBounds_toArray, List.set_cons_zero, List.set_cons_succ])
      have r0 := Tn.out.c0
      have r1 := Tn.out.c1
      have r2 := Tn.out.fz 0
      have r3 := Tn.out.fz 1
      refine stepX_call (o := ⟨_, _, _, _, _, _⟩) rfl (by rfl) (fun K hK => ?_)
      go_simp
      refine hK (fun _ => False) (fun _ h => h.elim) _ _ (turn_put _ _ _ _) ?_
      clear hK K r0 r1 r2 r3
      iterate 1 (refine wpGx_read (o := ⟨_, _, _, _, _, _⟩) (v := ?_) rfl (by rfl) ?_ ?_; rotate_left; (intro w' hw'; go_simp; with_reducible rfl); simp only [Act.put, List.setIfInBounds_toArray, List.set_cons_zero, List.set_cons_succ])
      refine wpGx_done ?_
      have tp := turn_put wr b (.pointer q) (.int .i64 2)
      have hY : SuY w ((wr.setCell ⟨b, 0, none⟩ (.pointer q)).setCell ⟨b, 1, none⟩ (.int .i64 2)) bt p H av b q G := ⟨⟨XXXXWA1O2R3.out.t.turn tp (by omega), XXXXWA1O2R3.out.tr.turn tp (TF.one Tn.out), XXXXWA1O2R3.out.l.turn entE_str tp (TF.one Tn.out), below_put XXXXWA1O2R3.out.b hlo⟩, Tn.out.put q 2, Rq.out.turn tp (TF.one Tn.out)⟩
      go_wp2
      go_meet
      exact ⟨b, q, G, rfl, rfl, hY⟩
  case rest =>
    obtain ⟨bu, q, G, rfl, rfl, HY⟩ := hcut
    have hy := HY.out
    have c0 := hy.u.c0
    have c1 := hy.u.c1
    have hfi := first_any q 2 L2 G spB wc hy.ur (by decide)
    rw [sf_first] at hfi
    have Hfi := Lib.hid hfi
    clear hy hfi HX
    go_wp2_with fail
    refine Hfi.out.mono ?_
    rintro e w4 ⟨rfl, hb4⟩
    rw [show ea [⟨xc, xx, []⟩] 0 = ⟨xc, xx, []⟩ from rfl, show decide (0 < ([⟨xc, xx, []⟩] : List En).length) = true from rfl]
    dsimp only
    obtain ⟨W5, hW5, hn5, hb5⟩ := alloc_own w4 ET #[.string xc, .string xx]
    obtain ⟨bf, hbf⟩ : ∃ bf, w4.heap.size = bf := ⟨_, rfl⟩
    rw [hbf] at hn5
    have HF5 : Hid (EB W5 bf ⟨xc, xx, []⟩) := hn5
    have HY5 := Lib.hid ((HY.out.ext hb4).ext hb5)
    have HW5 := Lib.hid hW5
    have Hbf := Lib.hid hbf
    clear hW5 hn5 hb5 hb4 Hfi c0 c1 HY hbf
    go_upto_region 5 with fail
    rw [HW5.out, Hbf.out]
    clear HW5 Hbf
    go_cut [10] from 11 (fun no wx => no = .bool false ∧ Hid (SuY w wx bt p H av bu q G) ∧ Hid (EB wx bf ⟨xc, xx, []⟩))
    case first =>
      obtain ⟨W, hW⟩ : ∃ W, W5.drew = W := ⟨_, rfl⟩
      have hbd : Below W5.heap.size W5 W := by rw [← hW]; exact (Below.refl _ _).drew
      have XW := Lib.hid (HY5.out.ext hbd)
      have FW := Lib.hid (HF5.out.ext hbd)
      have q1 : ∀ w', Turn (fun _ => False) W w' → w'.cell? ⟨bu, 0, none⟩ = some (.pointer q) := fun w' t => (XW.out.u.turn t (fun h => h)).c0
      have q2 : ∀ w', Turn (fun _ => False) W w' → w'.cell? ⟨bu, 1, none⟩ = some (.int .i64 2) := fun w' t => (XW.out.u.turn t (fun h => h)).c1
      have hrem : ∀ x, SuY w x bt p H av bu q G → Calls Tryd.prog 14 #[.agg #[.pointer q, .int .i64 2], spO.v] x fun e w' => e = .returned (.tuple #[.agg #[.string ⟨#[]⟩, .string ⟨#[]⟩], .bool false]) ∧ Below x.heap.size x w' := fun x hx => by
        have h := last_any q 2 L2 G spO x hx.ur (by decide)
        rw [sf_last, ea_nil] at h
        exact h
      have Hrem := Lib.hid hrem
      have HW := Lib.hid hW
      have XB := Lib.hid (Below.refl W.heap.size W)
      clear hW hbd hrem HY5 HF5
      refine wp_region_gx (fun _ => False) (.rd 0 (.two 1 (.two 2 (.rd 3 (.rd 4 (.rd 5 (.call 6 (.call 7 (.rd 8 .done)))))) 6 (.call 2 (.rd 3 (.rd 4 (.rd 5 (.call 7 (.rd 8 .done))))))) 6 (.call 1 (.call 2 (.rd 3 (.rd 4 (.rd 5 (.call 7 (.rd 8 .done))))))))) (by kernel_rfl) (by kernel_rfl) (by kernel_rfl) (by kernel_rfl) (fun _ _ _ _ _ h => h) ?_
      rw [HW.out]
      clear HW
      (refine wpGx_read (o := ⟨_, _, _, _, _, _⟩) (v := ?_) rfl (by rfl) ?_ ?_; rotate_left; (intro w' hw'; go_simp; with_reducible rfl); simp only [Act.put, List.setIfInBounds_toArray, List.set_cons_zero, List.set_cons_succ])
      clear q1 q2
      refine ⟨?_, ?_⟩
      · refine stepX_call (o := ⟨_, _, _, _, _, _⟩) rfl (by rfl) (fun K hK => ?_)
        go_simp
        refine (Ho.out W).mono ?_
        rintro e wo ⟨rfl, hb⟩
        rw [sf_o]
        refine hK (fun _ => False) (fun _ h _ => h) _ _ (Turn.ofBelow hb) ?_
        clear hK K
        have XXBO1 := Lib.hid (XB.out.trans (hb.mono XB.out.size))
        clear hb
        refine ⟨?_, ?_⟩
        · refine stepX_call (o := ⟨_, _, _, _, _, _⟩) rfl (by rfl) (fun K hK => ?_)
          go_simp
          refine (Hrem.out wo (XW.out.ext XXBO1.out)).mono ?_
          rintro e wr ⟨rfl, hb⟩
          refine hK (fun _ => False) (fun _ h _ => h) _ _ (Turn.ofBelow hb) ?_
          clear hK K
          have XXXBO1R1 := Lib.hid (XXBO1.out.trans (hb.mono XXBO1.out.size))
          clear hb
          iterate 3 (refine wpGx_read (o := ⟨_, _, _, _, _, _⟩) (v := ?_) rfl (by rfl) ?_ ?_; rotate_left; (intro w' hw'; go_simp; with_reducible rfl); simp only [Act.put, List.setIfInBounds_toArray, List.set_cons_zero, List.set_cons_succ])
          obtain ⟨b, wa, hb0, hwa, htn, hb⟩ := alloc_ent13 wr
          have HG := Lib.hid (And.intro hb0 hwa)
          have Hb := Lib.hid hb
          have Tn := Lib.hid htn
          have XXXXBO1R1A2 := Lib.hid (XXXBO1R1.out.trans (hb.mono XXXBO1R1.out.size))
          have hbw2 : ¬ b < wr.heap.size := by omega
          have hlo : W.heap.size ≤ b := by have := XXXBO1R1.out.size; omega
          clear hb0 hwa htn hb
          refine stepX_call (o := ⟨_, _, _, _, _, _⟩) rfl (by rfl) (fun K hK => ?_)
          go_simp
          rw [HG.out.1, HG.out.2]
          refine hK (fun i => i = b) (fun j h hj => absurd hj (by omega)) _ _ (Turn.ofBelow Hb.out) ?_
          clear hK K HG Hb hbw2
          have r0 := Tn.out.c0
          have r1 := Tn.out.c1
          have r2 := Tn.out.fz 0
          have r3 := Tn.out.fz 1
          simp only [E0] at r0 r1
          refine stepX_call (o := ⟨_, _, _, _, _, _⟩) rfl (by rfl) (fun K hK => ?_)
          go_simp
          refine hK (fun _ => False) (fun _ h => h.elim) _ _ (turn_put _ _ _ _) ?_
          clear hK K r0 r1 r2 r3
          iterate 1 (refine wpGx_read (o := ⟨_, _, _, _, _, _⟩) (v := ?_) rfl (by rfl) ?_ ?_; rotate_left; (intro w' hw'; go_simp; with_reducible rfl); simp only [Act.put, List.setIfInBounds_toArray, List.set_cons_zero, List.set_cons_succ])
          refine wpGx_done ?_
          have hbf : Below W.heap.size W ((wa.setCell ⟨b, 0, none⟩ (.string ⟨#[]⟩)).setCell ⟨b, 1, none⟩ (.string ⟨#[]⟩)) := below_put XXXXBO1R1A2.out hlo
          go_wp2
          go_meet
          exact ⟨rfl, XW.out.ext hbf, FW.out.ext hbf⟩
        · obtain ⟨b, wa, hb0, hwa, htn, hb⟩ := alloc_ent13 wo
          have HG := Lib.hid (And.intro hb0 hwa)
          have Hb := Lib.hid hb
          have Tn := Lib.hid htn
          have XXXBO1A1 := Lib.hid (XXBO1.out.trans (hb.mono XXBO1.out.size))
          have hbw2 : ¬ b < wo.heap.size := by omega
          have hlo : W.heap.size ≤ b := by have := XXBO1.out.size; omega
          clear hb0 hwa htn hb
          refine stepX_call (o := ⟨_, _, _, _, _, _⟩) rfl (by rfl) (fun K hK => ?_)
          go_simp
          rw [HG.out.1, HG.out.2]
          refine hK (fun i => i = b) (fun j h hj => absurd hj (by omega)) _ _ (Turn.ofBelow Hb.out) ?_
          clear hK K HG Hb hbw2
          refine stepX_call (o := ⟨_, _, _, _, _, _⟩) rfl (by rfl) (fun K hK => ?_)
          go_simp
          refine (Hrem.out wa (XW.out.ext XXXBO1A1.out)).mono ?_
          rintro e wr ⟨rfl, hb⟩
          refine hK (fun i => i = b) (fun _ h _ => h) _ _ (Turn.ofBelow hb) ?_
          clear hK K
          have XXXXBO1A1R2 := Lib.hid (XXXBO1A1.out.trans (hb.mono XXXBO1A1.out.size))
          have Tn2 := Lib.hid (Tn.out.ext hb)
          replace Tn := Tn2
          clear Tn2
          clear hb
          iterate 3 (refine wpGx_read (o := ⟨_, _, _, _, _, _⟩) (v := ?_) rfl (by rfl) ?_ ?_; rotate_left; (intro w' hw'; go_simp; with_reducible rfl); simp only [Act.put, List.setIfInBounds_toArray, List.set_cons_zero, List.set_cons_succ])
          have r0 := Tn.out.c0
          have r1 := Tn.out.c1
          have r2 := Tn.out.fz 0
          have r3 := Tn.out.fz 1
          simp only [E0] at r0 r1
          refine stepX_call (o := ⟨_, _, _, _, _, _⟩) rfl (by rfl) (fun K hK => ?_)
          go_simp
          refine hK (fun _ => False) (fun _ h => h.elim) _ _ (turn_put _ _ _ _) ?_
          clear hK K r0 r1 r2 r3
          iterate 1 (refine wpGx_read (o := ⟨_, _, _, _, _, _⟩) (v := ?_) rfl (by rfl) ?_ ?_; rotate_left; (intro w' hw'; go_simp; with_reducible rfl); simp only [Act.put, List.setIfInBounds_toArray, List.set_cons_zero, List.set_cons_succ])
          refine wpGx_done ?_
          have hbf : Below W.heap.size W ((wr.setCell ⟨b, 0, none⟩ (.string ⟨#[]⟩)).setCell ⟨b, 1, none⟩ (.string ⟨#[]⟩)) := below_put XXXXBO1A1R2.out hlo
          go_wp2
          go_meet
          exact ⟨rfl, XW.out.ext hbf, FW.out.ext hbf⟩
      · obtain ⟨b, wa, hb0, hwa, htn, hb⟩ := alloc_ent13 W
        have HG := Lib.hid (And.intro hb0 hwa)
        have Hb := Lib.hid hb
        have Tn := Lib.hid htn
        have XXBA1 := Lib.hid (XB.out.trans (hb.mono XB.out.size))
        have hbw2 : ¬ b < W.heap.size := by omega
        have hlo : W.heap.size ≤ b := by have := XB.out.size; omega
        clear hb0 hwa htn hb
        refine stepX_call (o := ⟨_, _, _, _, _, _⟩) rfl (by rfl) (fun K hK => ?_)
        go_simp
        rw [HG.out.1, HG.out.2]
        refine hK (fun i => i = b) (fun j h hj => absurd hj (by omega)) _ _ (Turn.ofBelow Hb.out) ?_
        clear hK K HG Hb hbw2
        refine stepX_call (o := ⟨_, _, _, _, _, _⟩) rfl (by rfl) (fun K hK => ?_)
        go_simp
        refine (Ho.out wa).mono ?_
        rintro e wo ⟨rfl, hb⟩
        rw [sf_o]
        refine hK (fun i => i = b) (fun _ h _ => h) _ _ (Turn.ofBelow hb) ?_
        clear hK K
        have XXXBA1O2 := Lib.hid (XXBA1.out.trans (hb.mono XXBA1.out.size))
        have Tn2 := Lib.hid (Tn.out.ext hb)
        replace Tn := Tn2
        clear Tn2
        clear hb
        refine stepX_call (o := ⟨_, _, _, _, _, _⟩) rfl (by rfl) (fun K hK => ?_)
        go_simp
        refine (Hrem.out wo (XW.out.ext XXXBA1O2.out)).mono ?_
        rintro e wr ⟨rfl, hb⟩
        refine hK (fun i => i = b) (fun _ h _ => h) _ _ (Turn.ofBelow hb) ?_
        clear hK K
        have XXXXBA1O2R3 := Lib.hid (XXXBA1O2.out.trans (hb.mono XXXBA1O2.out.size))
        have Tn2 := Lib.hid (Tn.out.ext hb)
        replace Tn := Tn2
        clear Tn2
        clear hb
        iterate 3 (refine wpGx_read (o := ⟨_, _, _, _, _, _⟩) (v := ?_) rfl (by rfl) ?_ ?_; rotate_left; (intro w' hw'; go_simp; with_reducible rfl); simp only [Act.put, List.setIfInBounds_toArray, List.set_cons_zero, List.set_cons_succ])
        have r0 := Tn.out.c0
        have r1 := Tn.out.c1
        have r2 := Tn.out.fz 0
        have r3 := Tn.out.fz 1
        simp only [E0] at r0 r1
        refine stepX_call (o := ⟨_, _, _, _, _, _⟩) rfl (by rfl) (fun K hK => ?_)
        go_simp
        refine hK (fun _ => False) (fun _ h => h.elim) _ _ (turn_put _ _ _ _) ?_
        clear hK K r0 r1 r2 r3
        iterate 1 (refine wpGx_read (o := ⟨_, _, _, _, _, _⟩) (v := ?_) rfl (by rfl) ?_ ?_; rotate_left; (intro w' hw'; go_simp; with_reducible rfl); simp only [Act.put, List.setIfInBounds_toArray, List.set_cons_zero, List.set_cons_succ])
        refine wpGx_done ?_
        have hbf : Below W.heap.size W ((wr.setCell ⟨b, 0, none⟩ (.string ⟨#[]⟩)).setCell ⟨b, 1, none⟩ (.string ⟨#[]⟩)) := below_put XXXXBA1O2R3.out hlo
        go_wp2
        go_meet
        exact ⟨rfl, XW.out.ext hbf, FW.out.ext hbf⟩
    case rest =>
      obtain ⟨rfl, HY6, HF6⟩ := hcut
      have hnum := Lib.hid (num_any .nilIface 0 wc (.inl ⟨rfl, rfl⟩) (Hg0.out HY6.out.x.b))
      clear HY5 HF5
      go_wp2_with fail
      refine hnum.out.mono ?_
      rintro e w7 ⟨rfl, hb7⟩
      have HY7 := Lib.hid (HY6.out.ext hb7)
      have HF7 := Lib.hid (HF6.out.ext hb7)
      have hc := ES.ents HY7.out.x.l (by decide)
      obtain ⟨g, o, rfl, hc⟩ := hc
      obtain ⟨v0, v1⟩ := hc 0 (by decide)
      rw [show ea [⟨xc, xx, []⟩] 0 = ⟨xc, xx, []⟩ from rfl, Nat.zero_mul, Nat.add_zero] at v0 v1
      have u0 := HY7.out.u.c0
      have u1 := HY7.out.u.c1
      have Hlen := Lib.hid (fun x => len_any q 2 x)
      clear hb7 hnum HY6 HF6 hc
      go_wp2_with fail
      refine (Hlen.out _).mono ?_
      rintro e w8 ⟨rfl, hb8⟩
      have HY8 := Lib.hid (HY7.out.ext hb8)
      have f8 := HF7.out.ext hb8
      have f0 := f8.c0
      have f1 := f8.c1
      have t0 := HY8.out.x.t.c0
      have t1 := HY8.out.x.t.c1
      have hct := count_any p 3 L3 H spA w8 HY8.out.x.tr (by decide)
      rw [sf_all] at hct
      have Hct := Lib.hid hct
      clear hb8 f8 HY7 HF7 v0 v1 u0 u1 Hlen hct
      go_wp2_with fail
      refine Hct.out.mono ?_
      rintro e w9 ⟨rfl, hb9⟩
      have HB9 := Lib.hid ((HY8.out.ext hb9).x.b)
      clear hb9 Hct f0 f1 t0 t1
      go_wp2_with fail
      go_ret
      exact ⟨rfl, HB9.out⟩
end Go.Proofs.YtimdlgjgoggaiaaDoor
