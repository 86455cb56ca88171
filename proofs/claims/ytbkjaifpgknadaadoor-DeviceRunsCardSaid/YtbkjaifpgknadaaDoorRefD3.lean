/-
  The document's device: Write.
-/
import Derived.Test.YtbkjaifpgknadaaDoorRefD2
namespace Go.Proofs.YtbkjaifpgknadaaDoor
open Go Go.RowKit Go.Maps

set_option maxRecDepth 100000 in
set_option maxHeartbeats 2000000 in
theorem rwrite_any (w : World) (yb ps pn pw : Nat) (S : DS) (n : Int) (a : Option Addr) (l : List Nat) (c : Nat) (hs : Src w a l) (h8 : B8 l) (hoff : 0 < l.length → Off a (FootR yb ps pn pw)) (hw : WfS S) (h : Ref w yb ps pn pw S) :
    Calls Tryd.prog 20 #[.pointer (some ⟨yb, 0, none⟩), .int .i64 n, .slice a l.length c] w fun e w' => e = .returned (.int .i64 (wrS S n l).1) ∧ Ref w' yb ps pn pw (wrS S n l).2 ∧ Turn (FootR yb ps pn pw) w w' := by
  have hp1 := hw.p1
  have hp2 := hw.p2
  have c0 := h.c0
  have c1 := h.c1
  have c2 := h.c2
  have c3 := h.c3
  have c4 := h.c4
  have c5 := h.c5
  have H := Lib.hid (And.intro h (And.intro hw (And.intro hs hoff)))
  rcases among_ne S n ((8 * S.pages : Nat) : Int) with ⟨he, hdn, hn0, hnM⟩ | he
  · obtain ⟨k, rfl⟩ := Int.eq_ofNat_of_zero_le hn0
    have hkM : k < 8 * S.pages := by omega
    have hrd := rread_ok w ps pn pw S k he hw h.v
    have Hrd := Lib.hid hrd
    by_cases hl : l.length = 64
    · have d0 : ((l.length : Int) != 64) = false := by simp [hl]
      have hstep := fun (w1 : World) (hb : Below w.heap.size w w1) => rstep_any w1 yb ps pn pw S hw (h.below hb)
      rcases step_ne S with hse | hse
      · have ew : wrS S (k : Int) l = (0, { (stepS S).2 with waits := upd (stepS S).2.waits k (some l) }) := by unfold wrS; rw [if_pos he, if_pos hl, if_pos hse]; rfl
        rw [ew]
        rw [hse] at hstep
        have hT : (stepS S).2.pages = S.pages ∧ rd (stepS S).2 = rd S ∧ sfS (stepS S).2 = sfS S := by
          unfold stepS; split
          · exact ⟨rfl, rfl, rfl⟩
          · split <;> exact ⟨rfl, rfl, rfl⟩
        generalize stepS S = T0 at *
        obtain ⟨f, T⟩ := T0
        simp only at hstep hse hT ⊢
        obtain ⟨b, o, rfl, hcs⟩ := hs (by omega)
        have hbf := hoff (by omega) b o rfl
        have HX := Lib.hid (And.intro hl (And.intro hcs (And.intro hbf (And.intro hT hstep))))
        clear h hw hs hoff ew hse hstep hl hcs hbf hT hrd he hnM hdn
        go_enter Tryd.func20, Tryd.ntmps20
        go_wp2_with fail
        refine Hrd.out.mono ?_
        rintro e w1 ⟨g, hg1, rfl, hr1, hb1⟩
        have hst1 := HX.out.2.2.2.2 w1 hb1
        have Hst1 := Lib.hid hst1
        have Hb1 := Lib.hid hb1
        clear hst1 hb1 hr1 hg1 c0 c1 c2 c3 c4 c5
        go_wp2_with fail
        refine Hst1.out.mono ?_
        rintro e w2 ⟨rfl, hR2, hT2⟩
        have ht2 : Turn (FootR yb ps pn pw) w w2 := (Turn.ofBelow Hb1.out).trans (hT2.mono (fun i hi _ => .inl hi))
        have hT1 := HX.out.2.2.2.1
        have hL : L64 (rd T) := by rw [hT1.2.1]; exact H.out.2.1.rd
        have hrow0 : Hid (Row w2 pn A64 (flatS (at1 (rd T) k (mx l (rd T k) 0)) (8 * T.pages))) := by
          have e : at1 (rd T) k (mx l (rd T k) 0) = rd T := by
            funext m; unfold at1 mx
            split
            · rename_i e; subst e; simp
            · rfl
          rw [e]; exact hR2.v.now
        have HR2 := Lib.hid hR2
        have HL := Lib.hid hL
        have Ht2 := Lib.hid ht2
        clear hR2 hT2 ht2 hT1 hL Hst1 Hb1 Hrd
        go_wp2
        go_loopw [9] (fun i wr => ∃ j : Nat, j ≤ 64 ∧ i = .int .i64 j ∧ Hid (Row wr pn A64 (flatS (at1 (rd T) k (mx l (rd T k) j)) (8 * T.pages))) ∧ Hid (Turn (fun i => i = pn) w2 wr)) (fun i _ => 64 - (intOf i).toNat)
        case atStart => exact ⟨0, Nat.zero_le _, rfl, hrow0, Turn.refl _ _⟩
        case round =>
          clear hrow0
          obtain ⟨j, hj, rfl, hrow, ht⟩ := hrel
          have hRr : yb ≠ pn := HR2.out.out.2.1
          have q2 : wr.cell? ⟨yb, 2, none⟩ = some (.slice (some ⟨pn, 0, none⟩) (8 * T.pages) (8 * T.pages)) := by rw [ht.out.cell (p := ⟨yb, 2, none⟩) (block_lt_of_cell HR2.out.c2) hRr]; exact HR2.out.c2
          by_cases hlt : j < 64
          · have hbn : b ≠ pn := fun e => HX.out.2.2.1 (.inr (.inr (.inl e)))
            have qb : wr.cell? ⟨b, o + j, none⟩ = some (.int .u8 ((l.getD j 0 : Nat) : Int)) := by
              have hc0 := HX.out.2.1 j (by rw [HX.out.1]; exact hlt)
              rw [ht.out.cell (p := ⟨b, o + j, none⟩) (by have h1 : b < w.heap.size := block_lt_of_cell hc0; have h2 := Ht2.out.size; show b < w2.heap.size; omega) hbn, Ht2.out.cell (p := ⟨b, o + j, none⟩) (block_lt_of_cell hc0) HX.out.2.2.1]
              exact hc0
            have hX := h8.get j
            have hbl := block_lt_of_cell qb
            have hset := flat_set (f := at1 (rd T) k (mx l (rd T k) j)) (at1_len HL.out (mx_len HX.out.1 (HL.out k) (show j ≤ 64 by omega))) (show k < 8 * T.pages by rw [HX.out.2.2.2.1.1]; exact hkM) hlt (l.getD j 0)
            rw [at1_same, mx_set HX.out.1 (HL.out k) hlt, at1_at1] at hset
            have Hset := Lib.hid hset
            have hfl : (flatS (at1 (rd T) k (mx l (rd T k) j)) (8 * T.pages)).length = 8 * T.pages * 64 := flat_len (at1_len HL.out (mx_len HX.out.1 (HL.out k) (show j ≤ 64 by omega))) _
            have Hfl := Lib.hid hfl
            have hkT : k < 8 * T.pages := by rw [HX.out.2.2.2.1.1]; exact hkM
            have hkI : (k : Int) < 8 * (T.pages : Int) := by omega
            have hjl : (j : Int) < (l.length : Int) := by rw [HX.out.1]; omega
            generalize l.getD j 0 = X at *
            have hybl := block_lt_of_cell q2
            clear hset hfl
            go_wp2
            refine wp_region_gt (F := fun i => i = pn) [(0, true), (1, true), (2, true), (3, true), (4, true), (5, true), (6, true), (7, true), (8, true), (9, true), (10, true), (11, true), (12, false)] (by kernel_rfl) (by kernel_rfl) (by kernel_rfl) (by kernel_rfl) (fun _ _ _ _ _ h => h) ?_
            have hbd : Below wr.heap.size wr wr.drew := Ext.drew wr
            have q2 : ∀ w', Turn (fun i => i = pn) wr.drew w' → w'.cell? ⟨yb, 2, none⟩ = some (.slice (some ⟨pn, 0, none⟩) (8 * T.pages) (8 * T.pages)) := fun w' t => by
              rw [t.cell (p := ⟨yb, 2, none⟩) hybl hRr]; exact q2
            have qb : ∀ w', Turn (fun i => i = pn) wr.drew w' → w'.cell? ⟨b, o + j, none⟩ = some (.int .u8 (X : Int)) := fun w' t => by
              rw [t.cell (p := ⟨b, o + j, none⟩) hbl hbn]; exact qb
            have hrd' : Row wr.drew pn A64 (flatS (at1 (rd T) k (mx l (rd T k) j)) (8 * T.pages)) := Row.ext hrow.out hbd
            have htd : Turn (fun i => i = pn) w2 wr.drew := ht.out.trans (Turn.ofBelow hbd)
            clear hrow ht hbd hbl hybl
            generalize wr.drew = w3 at *
            iterate 12 (refine wpGt_read (o := ⟨_, _, _, _, _, _⟩) (v := ?_) rfl (by rfl) ?_ ?_; rotate_left; (intro w' hw'; go_simp; with_reducible rfl); simp only [Act.put, List.setIfInBounds_toArray, List.set_cons_zero, List.set_cons_succ])
            clear q2 qb
            have k2 := hrd'.cell (k * 64 + j) (by rw [Hfl.out]; omega)
            have f2 := hrd'.frozen (k * 64 + j)
            refine wpGt_call (o := ⟨_, _, _, _, _, _⟩) rfl (by rfl) (fun K hK => ?_)
            go_simp
            refine hK _ _ (turn_set w3 pn _ _) ?_
            clear hK K k2 f2
            refine wpGt_done ?_
            have hrow4 : Hid (Row (w3.setCell ⟨pn, k * 64 + j, none⟩ (.int .u8 (X : Int))) pn A64 (flatS (at1 (rd T) k (mx l (rd T k) (j + 1))) (8 * T.pages))) := by
              have := hrd'.set (k * 64 + j) X
              rw [Hset.out] at this
              exact this
            have ht4 : Hid (Turn (fun i => i = pn) w2 (w3.setCell ⟨pn, k * 64 + j, none⟩ (.int .u8 (X : Int)))) := htd.trans (turn_set w3 pn _ _)
            clear hrd' htd Hset Hfl
            generalize w3.setCell ⟨pn, k * 64 + j, none⟩ (.int .u8 (X : Int)) = w4 at *
            go_wp2
            go_roundw
            case rel => exact ⟨j + 1, by omega, by go_num, hrow4, ht4⟩
            case measure => simp [intOf]; omega
          · obtain rfl : j = 64 := by omega
            have hm64 : mx l (rd T k) 64 = l := by
              unfold mx
              rw [List.take_of_length_le (by rw [HX.out.1]; exact Nat.le_refl _), List.drop_of_length_le (by rw [HL.out]; exact Nat.le_refl _), List.append_nil]
            have hrow9 := hrow.out
            rw [hm64] at hrow9
            have hkT : k < 8 * T.pages := by rw [HX.out.2.2.2.1.1]; exact hkM
            have hkI : (k : Int) < 8 * (T.pages : Int) := by omega
            have hnw := HR2.out.v.nw
            have ho := HR2.out.out
            have q3 : wr.cell? ⟨yb, 3, none⟩ = some (.slice (some ⟨pw, 0, none⟩) (8 * T.pages) (8 * T.pages)) := by rw [ht.out.cell (p := ⟨yb, 3, none⟩) (block_lt_of_cell HR2.out.c3) hRr]; exact HR2.out.c3
            have hbw : BRow wr pw (wtS T) (8 * T.pages) := ht.out.hg HR2.out.v.waits (fun e => hnw e.symm)
            have kw := hbw.cell k hkT
            have fw := hbw.frozen k
            have hfin : Ref (wr.setCell ⟨pw, k, none⟩ (.bool true)) yb ps pn pw { T with waits := upd T.waits k (some l) } := by
              have t9 := turn_set wr pw k (.bool true)
              have hrw : wr.heap[yb]? = some (.cells (rcs ps pn pw T) RT (0, 0)) := ht.out.hg HR2.out.row hRr
              refine ⟨t9.hg hrw ho.2.2, ?_⟩
              refine ⟨Row.turn (Row.turn HR2.out.v.safe ht.out HR2.out.v.sn) t9 HR2.out.v.sw, ?_, ?_, HR2.out.v.sn⟩
              · rw [rd_write]; exact Row.turn hrow9 t9 hnw
              · rw [wt_write]; exact hbw.set k hkT true
            have hturn : Turn (FootR yb ps pn pw) w (wr.setCell ⟨pw, k, none⟩ (.bool true)) :=
              (Ht2.out.trans (ht.out.mono (fun i hi _ => .inr (.inr (.inl hi))))).trans ((turn_set wr pw k _).mono (fun i hi _ => .inr (.inr (.inr hi))))
            have Hf := Lib.hid (And.intro hfin hturn)
            clear hfin hturn hrow9 hrow ht hbw hnw ho q2
            go_wp2
            go_ret
            exact ⟨rfl, Hf.out.1, Hf.out.2⟩
      · have ew : wrS S (k : Int) l = stepS S := by unfold wrS; rw [if_pos he, if_pos hl, if_neg (by rw [hse]; decide)]
        rw [ew]
        rw [hse] at hstep
        have Hstep := Lib.hid hstep
        have hse' : (stepS S).1 = 9 := hse
        rw [hse']
        generalize (stepS S).2 = T at *
        clear h hw hs hoff ew hse hse' hstep hl hrd he hnM hdn
        go_enter Tryd.func20, Tryd.ntmps20
        go_wp2_with fail
        refine Hrd.out.mono ?_
        rintro e w1 ⟨g, hg1, rfl, hr1, hb1⟩
        have hst1 := Hstep.out w1 hb1
        have Hst1 := Lib.hid hst1
        have Hb1 := Lib.hid hb1
        clear hst1 hb1 hr1 hg1 c0 c1 c2 c3 c4 c5
        go_wp2_with fail
        refine Hst1.out.mono ?_
        rintro e w2 ⟨rfl, hR2, hT2⟩
        have ht2 : Turn (FootR yb ps pn pw) w w2 := (Turn.ofBelow Hb1.out).trans (hT2.mono (fun i hi _ => .inl hi))
        have Hf := Lib.hid (And.intro hR2 ht2)
        clear hR2 hT2 ht2
        go_wp2_with fail
        go_ret
        exact ⟨rfl, Hf.out.1, Hf.out.2⟩
    · have d0 : ((l.length : Int) != 64) = true := by rw [bne_iff_ne]; omega
      have ew : wrS S (k : Int) l = (1, S) := by unfold wrS; rw [if_pos he, if_neg hl]
      rw [ew]
      clear h hw hs hoff ew hl hrd he hnM hdn
      go_enter Tryd.func20, Tryd.ntmps20
      go_wp2_with fail
      refine Hrd.out.mono ?_
      rintro e w1 ⟨g, hg1, rfl, hr1, hb1⟩
      have Hf := Lib.hid (And.intro (H.out.1.below hb1) (Turn.ofBelow (F := FootR yb ps pn pw) hb1))
      clear hr1 hg1 hb1
      go_wp2_with fail
      go_ret
      exact ⟨rfl, Hf.out.1, Hf.out.2⟩
  · have hE : ∃ f : Int, amongE S n ((8 * S.pages : Nat) : Int) = f ∧ f ≠ 0 := ⟨_, rfl, by rcases he with h | h <;> rw [h] <;> decide⟩
    obtain ⟨f, hf, hf0⟩ := hE
    have ew : wrS S n l = (f, S) := by unfold wrS; rw [if_neg (by rw [hf]; exact hf0), hf]
    rw [ew]
    have hrd := rread_bad w ps pn pw S n f hf hf0 hw
    have hfb : (f != 0) = true := by rw [bne_iff_ne]; exact hf0
    have Hrd := Lib.hid hrd
    clear h hw hs hoff ew he hf hrd hf0
    go_enter Tryd.func20, Tryd.ntmps20
    go_wp2_with fail
    refine Hrd.out.mono ?_
    rintro e w1 ⟨rfl, hb1⟩
    have Hf := Lib.hid (And.intro (H.out.1.below hb1) (Turn.ofBelow (F := FootR yb ps pn pw) hb1))
    clear hb1
    go_wp2_with fail
    go_ret
    exact ⟨rfl, Hf.out.1, Hf.out.2⟩
end Go.Proofs.YtbkjaifpgknadaaDoor
