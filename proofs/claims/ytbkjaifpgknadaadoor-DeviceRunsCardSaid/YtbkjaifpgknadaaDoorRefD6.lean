/-
  The document's device: Sync.
-/
import Derived.Test.YtbkjaifpgknadaaDoorRefD5
namespace Go.Proofs.YtbkjaifpgknadaaDoor
open Go Go.RowKit Go.Maps Go.Sort

theorem RefV.like {w : World} {ps pn pw : Nat} {S T : DS} (h1 : Row w ps A64 (flatS (sfS S) (8 * S.pages))) (h2 : Row w pn A64 (flatS (rd S) (8 * S.pages))) (h3 : BRow w pw (wtS S) (8 * S.pages)) (hn : ps ≠ pn) (e0 : T.pages = S.pages) (e1 : ∀ m, m < 8 * S.pages → sfS T m = sfS S m) (e2 : ∀ m, m < 8 * S.pages → rd T m = rd S m) (e3 : ∀ m, m < 8 * S.pages → wtS T m = wtS S m) : RefV w ps pn pw T :=
  ⟨by rw [e0, flat_congr _ e1]; exact h1, by rw [e0, flat_congr _ e2]; exact h2, by unfold BRow; rw [e0, bvs_congr _ e3]; exact h3, hn⟩
/-- The three rows, where the sectors are given each for itself. -/
structure Rows3 (w : World) (ps pn pw M : Nat) (f g : Nat → List Nat) (b : Nat → Bool) : Prop where
  safe : Row w ps A64 (flatS f M)
  now : Row w pn A64 (flatS g M)
  waits : BRow w pw b M
theorem Rows3.ref {w : World} {ps pn pw M : Nat} {f g : Nat → List Nat} {b : Nat → Bool} (h : Rows3 w ps pn pw M f g b) {T : DS} (hn : ps ≠ pn) (e0 : 8 * T.pages = M) (e1 : ∀ m, m < M → sfS T m = f m) (e2 : ∀ m, m < M → rd T m = g m) (e3 : ∀ m, m < M → wtS T m = b m) : RefV w ps pn pw T :=
  ⟨by rw [e0, flat_congr _ e1]; exact h.safe, by rw [e0, flat_congr _ e2]; exact h.now, by unfold BRow; rw [e0, bvs_congr _ e3]; exact h.waits, hn⟩
theorem RefV.rows {w : World} {ps pn pw : Nat} {S : DS} (h : RefV w ps pn pw S) : Rows3 w ps pn pw (8 * S.pages) (sfS S) (rd S) (wtS S) := ⟨h.safe, h.now, h.waits⟩
def FootV (ps pn pw : Nat) (i : Nat) : Prop := i = ps ∨ i = pn ∨ i = pw
set_option maxRecDepth 100000 in
set_option maxHeartbeats 2000000 in
theorem rsync_any (w : World) (yb ps pn pw : Nat) (S : DS) (hw : WfS S) (h : Ref w yb ps pn pw S) :
    Calls Tryd.prog 26 #[.pointer (some ⟨yb, 0, none⟩)] w fun e w' => e = .returned (.int .i64 (syS S).1) ∧ Ref w' yb ps pn pw (syS S).2 ∧ Turn (FootR yb ps pn pw) w w' := by
  have hp1 := hw.p1
  have hp2 := hw.p2
  have c5 := h.c5
  have hstep := rstep_any w yb ps pn pw S hw h
  have H := Lib.hid (And.intro h hw)
  by_cases h1 : S.down = true
  · have e1 : syS S = (9, S) := by unfold syS; rw [if_pos h1]
    rw [e1]
    rw [h1] at c5
    clear h1 e1 h hw hstep
    go_enter Tryd.func26, Tryd.ntmps26
    go_wp2
    go_ret
    exact ⟨rfl, H.out.1, Turn.refl _ _⟩
  · have h2 : S.down = false := by cases hq : S.down <;> simp_all
    rw [h2] at c5
    rcases step_ne S with hse | hse
    · have e1 : syS S = (0, flat (stepS S).2) := by unfold syS; rw [if_neg h1, if_pos hse]
      rw [e1]
      rw [hse] at hstep
      have hT : (stepS S).2.pages = S.pages ∧ rd (stepS S).2 = rd S ∧ sfS (stepS S).2 = sfS S := by
        unfold stepS; split
        · exact ⟨rfl, rfl, rfl⟩
        · split
          · exact ⟨rfl, rfl, rfl⟩
          · exact ⟨rfl, rfl, rfl⟩
      generalize (stepS S).2 = T at *
      have hL1 : L64 (rd T) := by rw [hT.2.1]; exact hw.rd
      have hL2 : L64 (sfS T) := by rw [hT.2.2]; exact hw.sf
      obtain ⟨M, hM⟩ : ∃ M, M = 8 * T.pages := ⟨_, rfl⟩
      have hM1 : M ≤ 8192 := by rw [hM, hT.1]; omega
      have HT := Lib.hid (And.intro hL1 (And.intro hL2 hM))
      have Hst := Lib.hid hstep
      clear h1 e1 h2 hse hT hL1 hL2 h hw hstep hp1 hp2 hM
      go_enter Tryd.func26, Tryd.ntmps26
      go_wp2_with fail
      refine Hst.out.mono ?_
      rintro e w2 ⟨rfl, hR2, hT2⟩
      have ht2 : Turn (FootR yb ps pn pw) w w2 := hT2.mono (fun i hi _ => .inl hi)
      have hrows : Rows3 w2 ps pn pw M (upto 0 (rd T) (sfS T)) (rd T) (upto 0 (fun _ => false) (wtS T)) := by
        rw [upto_zero, upto_zero, HT.out.2.2]; exact hR2.v.rows
      have q1 := hR2.c1
      have q2 := hR2.c2
      have q3 := hR2.c3
      rw [← HT.out.2.2] at q1 q2 q3
      have hrows0 := Lib.hid hrows
      have HR2 := Lib.hid (And.intro hR2 (And.intro ht2 (And.intro q1 (And.intro q2 q3))))
      clear hR2 hT2 ht2 Hst hrows q1 q2 q3 c5
      go_wp2
      go_loopw [4] (fun i wr => ∃ j : Nat, j ≤ M ∧ i = .int .i64 j ∧ Hid (Rows3 wr ps pn pw M (upto j (rd T) (sfS T)) (rd T) (upto j (fun _ => false) (wtS T))) ∧ Hid (Turn (fun i => i = ps ∨ i = pw) w2 wr)) (fun i _ => M - (intOf i).toNat)
      case atStart => exact ⟨0, Nat.zero_le _, rfl, hrows0, Turn.refl _ _⟩
      case round =>
        clear hrows0
        obtain ⟨j, hj, rfl, hrow, ht⟩ := hrel
        have ho := HR2.out.1.out
        have hns : ps ≠ pn := HR2.out.1.v.sn
        have hnw := HR2.out.1.v.nw
        have hsw := HR2.out.1.v.sw
        have hyb : ¬ (yb = ps ∨ yb = pw) := fun h => by rcases h with h | h; exact ho.1 h; exact ho.2.2 h
        have hybl : yb < w2.heap.size := block_lt_of_cell HR2.out.2.2.1
        have q2 : wr.cell? ⟨yb, 2, none⟩ = some (.slice (some ⟨pn, 0, none⟩) M M) := by rw [ht.out.cell (p := ⟨yb, 2, none⟩) hybl hyb]; exact HR2.out.2.2.2.1
        by_cases hlt : j < M
        · have hjI : (j : Int) < (M : Int) := by omega
          go_wp2
          have hybr : yb < wr.heap.size := block_lt_of_cell q2
          refine wp_region_gt (F := fun i => i = ps) [(0, true), (1, true), (2, true), (3, true), (4, true), (5, true), (6, true), (7, true), (8, true), (9, true), (10, true), (11, true), (12, true), (13, false)] (by kernel_rfl) (by kernel_rfl) (by kernel_rfl) (by kernel_rfl) (fun _ _ _ _ _ h => h) ?_
          have hbd : Below wr.heap.size wr wr.drew := Ext.drew wr
          have td : Turn (fun i => i = ps ∨ i = pw) w2 wr.drew := ht.out.trans (Turn.ofBelow hbd)
          have q1 : ∀ w', Turn (fun i => i = ps) wr.drew w' → w'.cell? ⟨yb, 1, none⟩ = some (.slice (some ⟨ps, 0, none⟩) M M) := fun w' t => by
            rw [(td.trans (t.mono (fun i hi _ => .inl hi))).cell (p := ⟨yb, 1, none⟩) hybl hyb]; exact HR2.out.2.2.1
          have q2 : ∀ w', Turn (fun i => i = ps) wr.drew w' → w'.cell? ⟨yb, 2, none⟩ = some (.slice (some ⟨pn, 0, none⟩) M M) := fun w' t => by
            rw [(td.trans (t.mono (fun i hi _ => .inl hi))).cell (p := ⟨yb, 2, none⟩) hybl hyb]; exact HR2.out.2.2.2.1
          have hcs : ∀ w', Turn (fun i => i = ps) wr.drew w' → Cs w' pn (j * 64) (rd T j) := fun w' t => flat_cs HT.out.1 (Row.turn (Row.ext hrow.out.now hbd) t (fun e => hns e.symm)) hlt
          have hsf : Row wr.drew ps A64 (flatS (upto j (rd T) (sfS T)) M) := Row.ext hrow.out.safe hbd
          have hnd : Row wr.drew pn A64 (flatS (rd T) M) := Row.ext hrow.out.now hbd
          have hwd : BRow wr.drew pw (upto j (fun _ => false) (wtS T)) M := hrow.out.waits.below hbd
          have Hcs := Lib.hid hcs
          have Hrs := Lib.hid (And.intro hsf (And.intro hnd (And.intro hwd td)))
          have q3d : wr.drew.cell? ⟨yb, 3, none⟩ = some (.slice (some ⟨pw, 0, none⟩) M M) := by
            rw [td.cell (p := ⟨yb, 3, none⟩) hybl hyb]; exact HR2.out.2.2.2.2
          have Hq3 := Lib.hid q3d
          have hflen : (flatS (upto j (rd T) (sfS T)) M).length = M * 64 := flat_len (upto_L HT.out.1 HT.out.2.1) _
          have hput := flat_put (upto_L HT.out.1 HT.out.2.1) hlt (rd T j) (HT.out.1 j) (f := upto j (rd T) (sfS T))
          rw [upto_at1] at hput
          have Hput := Lib.hid (And.intro hflen hput)
          clear hcs hsf hnd hwd td hrow ht hbd hybr q3d hflen hput
          generalize wr.drew = w3 at *
          iterate 11 (refine wpGt_read (o := ⟨_, _, _, _, _, _⟩) (v := ?_) rfl (by rfl) ?_ ?_; rotate_left; (intro w' hw'; go_simp; with_reducible rfl); simp only [Act.put, List.setIfInBounds_toArray, List.set_cons_zero, List.set_cons_succ])
          refine wpGt_read (o := ⟨_, _, _, _, _, _⟩) (v := sec (rd T j)) rfl (by rfl) (fun w' hw' => rd_load_a64 (.tmp 33) rfl pn (j * 64) (rd T j) (by rfl) (Hcs.out w' hw') (HT.out.1 j)) ?_
          simp only [Act.put, List.setIfInBounds_toArray, List.set_cons_zero, List.set_cons_succ]
          (refine wpGt_read (o := ⟨_, _, _, _, _, _⟩) (v := ?_) rfl (by rfl) ?_ ?_; rotate_left; (intro w' hw'; go_simp; with_reducible rfl); simp only [Act.put, List.setIfInBounds_toArray, List.set_cons_zero, List.set_cons_succ])
          clear q2 q1
          refine wpGt_call (o := ⟨_, _, _, _, _, _⟩) rfl (by rfl) (fun K hK => ?_)
          refine wp_store_a64 (.tmp 35) (.tmp 34) rfl ps (j * 64) (rd T j) (flatS (upto j (rd T) (sfS T)) M) (by rfl) (by rfl) Hrs.out.1 (HT.out.1 j) (by rw [Hput.out.1]; omega) ?_
          intro w4 hr4 ht4
          refine hK _ _ ht4 ?_
          clear hK K
          refine wpGt_done ?_
          rw [Hput.out.2] at hr4
          have hr4n : Row w4 pn A64 (flatS (rd T) M) := Row.turn Hrs.out.2.1 ht4 (fun e => hns e.symm)
          have hr4w : BRow w4 pw (upto j (fun _ => false) (wtS T)) M := ht4.hg Hrs.out.2.2.1 (fun e => hsw e.symm)
          have t4 : Turn (fun i => i = ps ∨ i = pw) w2 w4 := Hrs.out.2.2.2.trans (ht4.mono (fun i hi _ => .inl hi))
          have q3 : w4.cell? ⟨yb, 3, none⟩ = some (.slice (some ⟨pw, 0, none⟩) M M) := by rw [t4.cell (p := ⟨yb, 3, none⟩) hybl hyb]; exact HR2.out.2.2.2.2
          have f3 := hr4w.frozen j
          have k3 := hr4w.cell j hlt
          have hset := hr4w.set j hlt false
          have eb : bat (upto j (fun _ => false) (wtS T)) j false = upto (j + 1) (fun _ => false) (wtS T) := upto_bat j (fun _ => false) (wtS T)
          rw [eb] at hset
          have t5 := turn_set w4 pw j (.bool false)
          have hrow5 : Rows3 (w4.setCell ⟨pw, j, none⟩ (.bool false)) ps pn pw M (upto (j + 1) (rd T) (sfS T)) (rd T) (upto (j + 1) (fun _ => false) (wtS T)) := ⟨Row.turn hr4 t5 hsw, Row.turn hr4n t5 hnw, hset⟩
          have t6 : Turn (fun i => i = ps ∨ i = pw) w2 (w4.setCell ⟨pw, j, none⟩ (.bool false)) := t4.trans (t5.mono (fun i hi _ => .inr hi))
          have H5 := Lib.hid (And.intro hrow5 t6)
          clear hrow5 t6 t5 eb hset t4 hr4w hr4n hr4 ht4 Hput Hrs Hcs Hq3
          go_wp2
          go_roundw
          case rel => exact ⟨j + 1, by omega, by go_num, H5.out.1, H5.out.2⟩
          case measure => simp [intOf]; omega
        · obtain rfl : j = M := by omega
          have hrw : wr.heap[yb]? = some (.cells (rcs ps pn pw T) RT (0, 0)) := ht.out.hg HR2.out.1.row hyb
          have hfin : Ref wr yb ps pn pw (flat T) := by
            refine ⟨hrw, hrow.out.ref hns HT.out.2.2.symm (fun m hm => ?_) (fun m hm => ?_) (fun m hm => ?_)⟩
            · rw [sf_flat]; unfold upto; rw [if_pos hm]
            · rw [rd_flat]
            · rw [wt_flat]; unfold upto; rw [if_pos hm]
          have ht9 : Turn (FootR yb ps pn pw) w wr := HR2.out.2.1.trans (ht.out.mono (fun i hi _ => by rcases hi with h | h; exact .inr (.inl h); exact .inr (.inr (.inr h))))
          have Hf := Lib.hid (And.intro hfin ht9)
          clear hfin ht9 hrw hrow ht
          go_wp2
          go_ret
          exact ⟨rfl, Hf.out.1, Hf.out.2⟩
    · have e1 : syS S = stepS S := by unfold syS; rw [if_neg h1, if_neg (by rw [hse]; decide)]
      rw [e1]
      have hse' : (stepS S).1 = 9 := hse
      rw [hse] at hstep
      rw [hse']
      generalize (stepS S).2 = T at *
      have Hst := Lib.hid hstep
      clear h1 e1 h2 hse hse' h hw hstep
      go_enter Tryd.func26, Tryd.ntmps26
      go_wp2_with fail
      refine Hst.out.mono ?_
      rintro e w2 ⟨rfl, hR2, hT2⟩
      have ht2 : Turn (FootR yb ps pn pw) w w2 := hT2.mono (fun i hi _ => .inl hi)
      have Hf := Lib.hid (And.intro hR2 ht2)
      clear hR2 hT2 ht2
      go_wp2_with fail
      go_ret
      exact ⟨rfl, Hf.out.1, Hf.out.2⟩
end Go.Proofs.YtbkjaifpgknadaaDoor
