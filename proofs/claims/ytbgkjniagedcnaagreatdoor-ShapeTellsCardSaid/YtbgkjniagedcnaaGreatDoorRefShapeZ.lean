/-
  The document's Taken, Most.
-/
import Derived.Test.YtbgkjniagedcnaaGreatDoorNodeZ
import Derived.Test.YtbgkjniagedcnaaGreatDoorChainMathZ
import Derived.Test.YtbgkjniagedcnaaGreatDoorStrByZ
import Derived.Test.YtbgkjniagedcnaaGreatDoorRefPiecesZ
import Derived.Deep.Cut
import Derived.Deep.CutRange
namespace Go.Proofs.YtbgkjniagedcnaaGreatDoor
open Go Go.RowKit

set_option maxRecDepth 100000 in
theorem refTaken_any (a : Option Addr) (n c : Nat) (es : List En) (w : World) (hn : es.length = n) (hs : ES entA w a es) (hok : ∀ x ∈ es, okE x) (hl : n ≤ 5000) :
    Calls Tryz.prog 10 #[.slice a n c] w fun e w' => e = .returned (.tuple #[.int .i64 (szs es : Nat), .int .i64 (pgs es : Nat)]) ∧ Below w.heap.size w w' := by
  have Hs := Lib.hid hs
  have Hok := Lib.hid hok
  have Hn := Lib.hid hn
  clear hs hok hn
  go_enter Tryz.func10, Tryz.ntmps10
  go_wp2_with fail
  go_loopw [4, 5, 6] (fun t p i wr => ∃ k T P : Nat, t = .int .i64 T ∧ p = .int .i64 P ∧ i = .int .i64 k ∧ k ≤ n ∧ T ≤ 106 * k ∧ P ≤ 5 * k ∧ Hid (T = szs (es.take k) ∧ P = pgs (es.take k)) ∧ Hid (Below w.heap.size w wr)) (fun _ _ i _ => n - (intOf i).toNat)
  case atStart => exact ⟨0, 0, 0, rfl, rfl, rfl, by omega, by omega, by omega, ⟨rfl, rfl⟩, Below.refl _ _⟩
  case round =>
    obtain ⟨k, T, P, rfl, rfl, rfl, hk, hT, hP, hI, hB⟩ := hrel
    by_cases hlt : k < n
    · obtain ⟨g, o, rfl, hcell⟩ := (Hs.out.below hB.out (Nat.le_refl _)).entsA (by rw [Hn.out]; omega)
      obtain ⟨p0, p1⟩ := hcell k (by rw [Hn.out]; exact hlt)
      have hoke := Hok.out (ea es k) (ea_mem (by rw [Hn.out]; exact hlt))
      have hks := okK_size hoke.1
      have hvs := hoke.2
      have hsr := (szE_range hoke).2
      have hpr := pgE_le hoke
      obtain ⟨W, hW⟩ : ∃ W, wr.drew = W := ⟨_, rfl⟩
      have hbW : Below wr.heap.size wr W := by rw [← hW]; exact (Below.refl _ _).drew
      have HBW := Lib.hid (hB.out.trans (hbW.mono hB.out.size))
      have l0 := block_lt_of_cell p0
      have l1 := block_lt_of_cell p1
      have r0 : ∀ w', Ext W w' → w'.cell? ⟨g, o + k * 2, none⟩ = some (.string (ea es k).k) := fun w' hx => by
        rw [(hbW.trans (hx.mono hbW.size)).cell (p := ⟨g, o + k * 2, none⟩) l0]; exact p0
      have r1 : ∀ w', Ext W w' → w'.cell? ⟨g, o + k * 2 + 1, none⟩ = some (.string (ea es k).v) := fun w' hx => by
        rw [(hbW.trans (hx.mono hbW.size)).cell (p := ⟨g, o + k * 2 + 1, none⟩) l1]; exact p1
      have Hsz := Lib.hid (refSize_any (ea es k).k (ea es k).v.size W (by omega) (by omega))
      have Hpc := Lib.hid (fun w' => refPieces_any (ea es k).v w' (by omega))
      have e1 : Hid (sizeS (ea es k).k ((ea es k).v.size : Int) = szE (ea es k)) := rfl
      rw [e1.out] at Hsz
      have e2 : Hid (szs (es.take (k + 1)) = T + szE (ea es k) ∧ pgs (es.take (k + 1)) = P + pnE (ea es k)) := by
        rw [szs_succ es k (by rw [Hn.out]; exact hlt), pgs_succ es k (by rw [Hn.out]; exact hlt)]
        exact ⟨by rw [hI.out.1], by rw [hI.out.2]⟩
      have e3 : Hid (pnE (ea es k) = if 64 < (ea es k).v.size then nP (ea es k).v.size else 0) := rfl
      have i1 : (0 : Int) ≤ (k : Int) := by omega
      have i2 : (k : Int) < (n : Int) := by omega
      have z0 : IntKind.i64.wrap (k : Int) = (k : Int) := by rw [IntKind.wrap_i64]; omega
      have z1 : IntKind.i64.wrap ((T : Int) + ((szE (ea es k) : Nat) : Int)) = (T : Int) + ((szE (ea es k) : Nat) : Int) := by rw [IntKind.wrap_i64]; omega
      generalize szE (ea es k) = S at *
      generalize pnE (ea es k) = Q at *
      generalize ea es k = y at *
      obtain ⟨yk, yv⟩ := y
      dsimp only at p0 p1 Hsz Hpc hks hvs e3 r0 r1
      have HW := Lib.hid hW
      have Hp1 := Lib.hid (And.intro p1 l1)
      have HbW := Lib.hid hbW
      clear hcell hoke e1 hB hI hW hbW l0 l1 p0 p1
      go_wp2_with fail
      refine wp_region_gr [(0, true), (1, true), (2, true), (3, true), (4, true), (5, true), (6, true), (7, true), (8, true), (9, true), (10, true), (11, true), (12, false), (13, true), (14, true)] (by kernel_rfl) (by kernel_rfl) (by kernel_rfl) (by kernel_rfl) (fun _ _ _ _ _ h => h) ?_
      rw [HW.out]
      iterate 12 (refine wpGr_read (o := ⟨_, _, _, _, _, _⟩) (v := ?_) rfl (by rfl) ?_ ?_; rotate_left; (intro w' hw'; go_simp; with_reducible rfl); simp only [Act.put, List.setIfInBounds_toArray, List.set_cons_zero, List.set_cons_succ])
      clear r0 r1
      refine wpGr_call (o := ⟨_, _, _, _, _, _⟩) rfl (by rfl) (fun K hK => ?_)
      go_simp
      refine Hsz.out.mono ?_
      rintro e w2 ⟨rfl, hb2⟩
      refine hK _ _ hb2 ?_
      clear hK K Hsz
      have HB2 := Lib.hid (HBW.out.trans (hb2.mono HBW.out.size))
      have q1 : w2.cell? ⟨g, o + k * 2 + 1, none⟩ = some (.string yv) := by
        rw [(HbW.out.trans (hb2.mono HbW.out.size)).cell (p := ⟨g, o + k * 2 + 1, none⟩) Hp1.out.2]; exact Hp1.out.1
      clear hb2
      iterate 2 (refine wpGr_read (o := ⟨_, _, _, _, _, _⟩) (v := ?_) rfl (by rfl) ?_ ?_; rotate_left; (intro w' hw'; go_simp; with_reducible rfl); simp only [Act.put, List.setIfInBounds_toArray, List.set_cons_zero, List.set_cons_succ])
      refine wpGr_done ?_
      by_cases h64 : 64 < yv.size
      · have d1 : decide (64 < (yv.size : Int)) = true := decide_eq_true (by omega)
        have hQ : Hid (nP yv.size = Q) := by show _ = _; rw [e3.out, if_pos h64]
        clear e3
        go_wp2_with fail
        refine (Hpc.out w2).mono ?_
        rintro e w3 ⟨u, rfl, ⟨ua, uc, rfl, _⟩, hb3⟩
        have HB3 := Lib.hid (HB2.out.trans (hb3.mono HB2.out.size))
        rw [chs_len, hQ.out]
        clear hb3 q1
        go_wp2_with fail
        go_roundw
        case rel => exact ⟨k + 1, T + S, P + Q, by go_num, by go_num, by go_num, by omega, by omega, by omega, ⟨e2.out.1.symm, e2.out.2.symm⟩, HB3⟩
        case measure => simp [intOf]; omega
      · have d1 : decide (64 < (yv.size : Int)) = false := decide_eq_false (by omega)
        have hQ : Hid (Q = 0) := by show _ = _; rw [e3.out, if_neg h64]
        clear e3 Hpc
        go_wp2_with fail
        go_roundw
        case rel => exact ⟨k + 1, T + S, P, by go_num, rfl, by go_num, by omega, by omega, by omega, ⟨e2.out.1.symm, by rw [e2.out.2, hQ.out]; rfl⟩, HB2⟩
        case measure => simp [intOf]; omega
    · obtain rfl : k = n := by omega
      have e1 : Hid (T = szs es ∧ P = pgs es) := by have := hI.out; rw [List.take_of_length_le (by rw [Hn.out]; exact Nat.le_refl _)] at this; exact this
      clear hI
      go_wp2
      go_ret2
      exact ⟨by rw [← e1.out.1, ← e1.out.2]; rfl, hB.out⟩
set_option maxHeartbeats 4000000 in
set_option maxRecDepth 100000 in
theorem refShMost_any (a : Option Addr) (n c : Nat) (es : List En) (w : World) (hn : es.length = n) (hs : 0 < n → ES entA w a es) (hl : n ≤ 1000000) :
    Calls Tryz.prog 9 #[.slice a n c] w fun e w' => e = .returned (.tuple #[.int .i64 (mosN es : Nat), .int .i64 (mosE es : Nat)]) ∧ Below w.heap.size w w' := by
  have Hs := Lib.hid hs
  have Hn := Lib.hid hn
  by_cases h4 : 4096 < n
  · have d1 : decide (4096 < (n : Int)) = true := decide_eq_true (by omega)
    have d1' : decide (4096 < n) = true := decide_eq_true h4
    have hm : mayS es = false := by unfold mayS; rw [decide_eq_false (by omega)]; rfl
    have e1 : Hid (mosN es = 0 ∧ mosE es = 1) := by unfold mosN mosE; rw [hm]; exact ⟨rfl, rfl⟩
    clear hs hn hm
    go_enter Tryz.func9, Tryz.ntmps9
    go_wp2
    go_ret2
    exact ⟨by rw [e1.out.1, e1.out.2]; rfl, Below.refl _ _⟩
  have d1 : decide (4096 < (n : Int)) = false := decide_eq_false (by omega)
  have d1' : decide (4096 < n) = false := decide_eq_false h4
  have hm : Hid (mayS es = mbB es n) := by show _ = _; unfold mayS; rw [decide_eq_true (by omega), hn]; rfl
  clear hs hn h4
  go_enter Tryz.func9, Tryz.ntmps9
  go_wp2_with fail
  go_loopw [4] (fun i wr => ∃ k : Nat, i = .int .i64 k ∧ k ≤ n ∧ Hid (mbB es k = true) ∧ Hid (Below w.heap.size w wr)) (fun i _ => n - (intOf i).toNat)
  case atStart => exact ⟨0, rfl, by omega, rfl, Below.refl _ _⟩
  case round =>
    obtain ⟨k, rfl, hk, hI, hB⟩ := hrel
    by_cases hlt : k < n
    · obtain ⟨g, o, rfl, hcell⟩ := ((Hs.out (by omega)).below hB.out (Nat.le_refl _)).entsA (by rw [Hn.out]; omega)
      obtain ⟨p0, p1⟩ := hcell k (by rw [Hn.out]; exact hlt)
      obtain ⟨W, hW⟩ : ∃ W, wr.drew = W := ⟨_, rfl⟩
      have hbW : Below wr.heap.size wr W := by rw [← hW]; exact (Below.refl _ _).drew
      have HBW := Lib.hid (hB.out.trans (hbW.mono hB.out.size))
      have HW := Lib.hid hW
      have l0 := block_lt_of_cell p0
      have l1 := block_lt_of_cell p1
      have r0 : ∀ w', Ext W w' → w'.cell? ⟨g, o + k * 2, none⟩ = some (.string (ea es k).k) := fun w' hx => by
        rw [(hbW.trans (hx.mono hbW.size)).cell (p := ⟨g, o + k * 2, none⟩) l0]; exact p0
      have r1 : ∀ w', Ext W w' → w'.cell? ⟨g, o + k * 2 + 1, none⟩ = some (.string (ea es k).v) := fun w' hx => by
        rw [(hbW.trans (hx.mono hbW.size)).cell (p := ⟨g, o + k * 2 + 1, none⟩) l1]; exact p1
      have Hst : Hid (stepB es k = ((okK (ea es k).k && decide ((ea es k).v.size ≤ 2048)) && (decide (k = 0) || blt (ea es (k - 1)).k (ea es k).k))) := rfl
      have Hyes : Hid (stepB es k = true → mbB es (k + 1) = true) := fun h => by rw [mbB, hI.out, h]; rfl
      have Hno : Hid (stepB es k = false → mbB es n = false) := fun h => mbB_no es k h n hlt
      have hx2 : ∀ j, k = j + 1 → ∀ w', Ext W w' → w'.cell? ⟨g, o + j * 2, none⟩ = some (.string (ea es j).k) := fun j hj w' hx => by
        have p2 := (hcell j (by rw [Hn.out]; omega)).1
        rw [(hbW.trans (hx.mono hbW.size)).cell (p := ⟨g, o + j * 2, none⟩) (block_lt_of_cell p2)]; exact p2
      have Hx2 := Lib.hid hx2
      have i1 : (0 : Int) ≤ (k : Int) := by omega
      have i2 : (k : Int) < (n : Int) := by omega
      have z0 : IntKind.i64.wrap (k : Int) = (k : Int) := by rw [IntKind.wrap_i64]; omega
      clear hcell hW hbW l0 l1 p0 p1 hx2 hB hI
      generalize stepB es k = SD at *
      obtain ⟨yk, hyk⟩ : ∃ y, (ea es k).k = y := ⟨_, rfl⟩
      obtain ⟨yv, hyv⟩ : ∃ y, (ea es k).v = y := ⟨_, rfl⟩
      rw [hyk] at r0 Hst
      rw [hyv] at r1 Hst
      have Hyk := Lib.hid hyk
      clear hyk hyv
      have hok : Hid (okK yk = decide (1 ≤ yk.size ∧ yk.size ≤ 40)) := rfl
      rw [hok.out] at Hst
      clear hok
      by_cases c1 : yk.size < 1
      · have d2 : decide ((yk.size : Int) < 1) = true := decide_eq_true (by omega)
        have d2' : decide (yk.size < 1) = true := decide_eq_true c1
        have hmk := Lib.hid (Hno.out (by rw [Hst.out]; simp [show ¬ 1 ≤ yk.size by omega]))
        have e1 : Hid (mosN es = 0 ∧ mosE es = 1) := by unfold mosN mosE; rw [hm.out, hmk.out]; exact ⟨rfl, rfl⟩
        clear Hyes Hno Hst hmk Hx2
        go_wp2_with fail
        refine wp_region_gr [(0, true), (1, true), (2, true), (3, true), (4, true), (5, true), (6, true), (7, true), (8, true), (9, true), (10, true), (11, true), (12, true), (13, true), (14, true), (15, true), (16, true), (17, true), (18, true), (19, true), (20, true), (21, true), (22, true), (23, true), (24, true), (25, true), (26, true), (27, true), (28, true), (29, true), (30, true), (31, true), (32, true), (33, true), (34, true), (35, true), (36, true), (37, true), (38, true), (39, true), (40, true), (41, true), (42, true)] (by kernel_rfl) (by kernel_rfl) (by kernel_rfl) (by kernel_rfl) (fun _ _ _ _ _ h => h) ?_
        rw [HW.out]
        iterate 43 (first | (refine wpGr_read (o := ⟨_, _, _, _, _, _⟩) (v := ?_) rfl (by rfl) ?_ ?_; rotate_left; (intro w' hw'; go_simp; with_reducible rfl); simp only [Act.put, List.setIfInBounds_toArray, List.set_cons_zero, List.set_cons_succ]) | (refine wpGr_skip (o := ⟨_, _, _, _, _, _⟩) rfl (by rfl) ?_; simp only [Act.put, List.setIfInBounds_toArray, List.set_cons_zero, List.set_cons_succ]))
        refine wpGr_done ?_
        clear r0 r1
        go_wp2_with fail
        go_ret2
        exact ⟨by rw [e1.out.1, e1.out.2]; rfl, HBW.out⟩
      have d2 : decide ((yk.size : Int) < 1) = false := decide_eq_false (by omega)
      have d2' : decide (yk.size < 1) = false := decide_eq_false c1
      by_cases c2 : 40 < yk.size
      · have d3 : decide (40 < (yk.size : Int)) = true := decide_eq_true (by omega)
        have d3' : decide (40 < yk.size) = true := decide_eq_true c2
        have hmk := Lib.hid (Hno.out (by rw [Hst.out]; simp [show ¬ yk.size ≤ 40 by omega]))
        have e1 : Hid (mosN es = 0 ∧ mosE es = 1) := by unfold mosN mosE; rw [hm.out, hmk.out]; exact ⟨rfl, rfl⟩
        clear Hyes Hno Hst hmk Hx2
        go_wp2_with fail
        refine wp_region_gr [(0, true), (1, true), (2, true), (3, true), (4, true), (5, true), (6, true), (7, true), (8, true), (9, true), (10, true), (11, true), (12, true), (13, true), (14, true), (15, true), (16, true), (17, true), (18, true), (19, true), (20, true), (21, true), (22, true), (23, true), (24, true), (25, true), (26, true), (27, true), (28, true), (29, true), (30, true), (31, true), (32, true), (33, true), (34, true), (35, true), (36, true), (37, true), (38, true), (39, true), (40, true), (41, true), (42, true)] (by kernel_rfl) (by kernel_rfl) (by kernel_rfl) (by kernel_rfl) (fun _ _ _ _ _ h => h) ?_
        rw [HW.out]
        iterate 43 (first | (refine wpGr_read (o := ⟨_, _, _, _, _, _⟩) (v := ?_) rfl (by rfl) ?_ ?_; rotate_left; (intro w' hw'; go_simp; with_reducible rfl); simp only [Act.put, List.setIfInBounds_toArray, List.set_cons_zero, List.set_cons_succ]) | (refine wpGr_skip (o := ⟨_, _, _, _, _, _⟩) rfl (by rfl) ?_; simp only [Act.put, List.setIfInBounds_toArray, List.set_cons_zero, List.set_cons_succ]))
        refine wpGr_done ?_
        clear r0 r1
        go_wp2_with fail
        go_ret2
        exact ⟨by rw [e1.out.1, e1.out.2]; rfl, HBW.out⟩
      have d3 : decide (40 < (yk.size : Int)) = false := decide_eq_false (by omega)
      have d3' : decide (40 < yk.size) = false := decide_eq_false c2
      by_cases c3 : 2048 < yv.size
      · have d4 : decide (2048 < (yv.size : Int)) = true := decide_eq_true (by omega)
        have d4' : decide (2048 < yv.size) = true := decide_eq_true c3
        have hmk := Lib.hid (Hno.out (by rw [Hst.out]; simp [show ¬ yv.size ≤ 2048 by omega]))
        have e1 : Hid (mosN es = 0 ∧ mosE es = 1) := by unfold mosN mosE; rw [hm.out, hmk.out]; exact ⟨rfl, rfl⟩
        clear Hyes Hno Hst hmk Hx2
        go_wp2_with fail
        refine wp_region_gr [(0, true), (1, true), (2, true), (3, true), (4, true), (5, true), (6, true), (7, true), (8, true), (9, true), (10, true), (11, true), (12, true), (13, true), (14, true), (15, true), (16, true), (17, true), (18, true), (19, true), (20, true), (21, true), (22, true), (23, true), (24, true), (25, true), (26, true), (27, true), (28, true), (29, true), (30, true), (31, true), (32, true), (33, true), (34, true), (35, true), (36, true), (37, true), (38, true), (39, true), (40, true), (41, true), (42, true)] (by kernel_rfl) (by kernel_rfl) (by kernel_rfl) (by kernel_rfl) (fun _ _ _ _ _ h => h) ?_
        rw [HW.out]
        iterate 43 (first | (refine wpGr_read (o := ⟨_, _, _, _, _, _⟩) (v := ?_) rfl (by rfl) ?_ ?_; rotate_left; (intro w' hw'; go_simp; with_reducible rfl); simp only [Act.put, List.setIfInBounds_toArray, List.set_cons_zero, List.set_cons_succ]) | (refine wpGr_skip (o := ⟨_, _, _, _, _, _⟩) rfl (by rfl) ?_; simp only [Act.put, List.setIfInBounds_toArray, List.set_cons_zero, List.set_cons_succ]))
        refine wpGr_done ?_
        clear r0 r1
        go_wp2_with fail
        go_ret2
        exact ⟨by rw [e1.out.1, e1.out.2]; rfl, HBW.out⟩
      have d4 : decide (2048 < (yv.size : Int)) = false := decide_eq_false (by omega)
      have d4' : decide (2048 < yv.size) = false := decide_eq_false c3
      by_cases c4 : k = 0
      · have d5 : decide (0 < (k : Int)) = false := decide_eq_false (by omega)
        have d5' : decide (0 < k) = false := decide_eq_false (by omega)
        have hmk := Lib.hid (Hyes.out (by rw [Hst.out]; simp [show 1 ≤ yk.size by omega, show yk.size ≤ 40 by omega, show yv.size ≤ 2048 by omega, c4]))
        clear Hyes Hno Hst Hx2 c4
        go_wp2_with fail
        refine wp_region_gr [(0, true), (1, true), (2, true), (3, true), (4, true), (5, true), (6, true), (7, true), (8, true), (9, true), (10, true), (11, true), (12, true), (13, true), (14, true), (15, true), (16, true), (17, true), (18, true), (19, true), (20, true), (21, true), (22, true), (23, true), (24, true), (25, true), (26, true), (27, true), (28, true), (29, true), (30, true), (31, true), (32, true), (33, true), (34, true), (35, true), (36, true), (37, true), (38, true), (39, true), (40, true), (41, true), (42, true)] (by kernel_rfl) (by kernel_rfl) (by kernel_rfl) (by kernel_rfl) (fun _ _ _ _ _ h => h) ?_
        rw [HW.out]
        iterate 43 (first | (refine wpGr_read (o := ⟨_, _, _, _, _, _⟩) (v := ?_) rfl (by rfl) ?_ ?_; rotate_left; (intro w' hw'; go_simp; with_reducible rfl); simp only [Act.put, List.setIfInBounds_toArray, List.set_cons_zero, List.set_cons_succ]) | (refine wpGr_skip (o := ⟨_, _, _, _, _, _⟩) rfl (by rfl) ?_; simp only [Act.put, List.setIfInBounds_toArray, List.set_cons_zero, List.set_cons_succ]))
        refine wpGr_done ?_
        clear r0 r1
        go_wp2_with fail
        go_roundw
        case rel => exact ⟨k + 1, by go_num, by omega, hmk, HBW⟩
        case measure => simp [intOf]; omega
      obtain ⟨j, hj⟩ : ∃ j, k = j + 1 := ⟨k - 1, by omega⟩
      have d5 : decide (0 < (k : Int)) = true := decide_eq_true (by omega)
      have d5' : decide (0 < k) = true := decide_eq_true (by omega)
      have r2 := Hx2.out j hj
      rw [show k - 1 = j by omega, decide_eq_false c4, Bool.false_or] at Hst
      have hle := ble_eq yk (ea es j).k
      have z2 : IntKind.i64.wrap ((k : Int) - 1) = (j : Int) := by rw [IntKind.wrap_i64]; omega
      have z3 : IntKind.i64.wrap (j : Int) = (j : Int) := by rw [IntKind.wrap_i64]; omega
      have i3 : (0 : Int) ≤ (j : Int) := by omega
      have i4 : (j : Int) < (n : Int) := by omega
      have i5 : j < n := by omega
      have Hj := Lib.hid hj
      have hk1 := Lib.hid (show 1 ≤ yk.size by omega)
      have hk2 := Lib.hid (show yk.size ≤ 40 by omega)
      have hv1 := Lib.hid (show yv.size ≤ 2048 by omega)
      generalize (ea es j).k = xk at *
      generalize blt xk yk = D at *
      clear hj c4
      cases D with
      | true =>
        have hmk := Lib.hid (Hyes.out (by rw [Hst.out]; simp [hk1.out, hk2.out, hv1.out]))
        clear Hyes Hno Hst Hx2
        go_wp2_with fail
        refine wp_region_gr [(0, true), (1, true), (2, true), (3, true), (4, true), (5, true), (6, true), (7, true), (8, true), (9, true), (10, true), (11, true), (12, true), (13, true), (14, true), (15, true), (16, true), (17, true), (18, true), (19, true), (20, true), (21, true), (22, true), (23, true), (24, true), (25, true), (26, true), (27, true), (28, true), (29, true), (30, true), (31, true), (32, true), (33, true), (34, true), (35, true), (36, true), (37, true), (38, true), (39, true), (40, true), (41, true), (42, true)] (by kernel_rfl) (by kernel_rfl) (by kernel_rfl) (by kernel_rfl) (fun _ _ _ _ _ h => h) ?_
        rw [HW.out]
        iterate 43 (first | (refine wpGr_read (o := ⟨_, _, _, _, _, _⟩) (v := ?_) rfl (by rfl) ?_ ?_; rotate_left; (intro w' hw'; go_simp; with_reducible rfl); simp only [Act.put, List.setIfInBounds_toArray, List.set_cons_zero, List.set_cons_succ]) | (refine wpGr_skip (o := ⟨_, _, _, _, _, _⟩) rfl (by rfl) ?_; simp only [Act.put, List.setIfInBounds_toArray, List.set_cons_zero, List.set_cons_succ]))
        refine wpGr_done ?_
        clear r0 r1 r2
        go_wp2_with fail
        go_roundw
        case rel => exact ⟨k + 1, by go_num, by omega, hmk, HBW⟩
        case measure => simp [intOf]; omega
      | false =>
        have hmk := Lib.hid (Hno.out (by rw [Hst.out]; simp [hk1.out]))
        have e1 : Hid (mosN es = 0 ∧ mosE es = 1) := by unfold mosN mosE; rw [hm.out, hmk.out]; exact ⟨rfl, rfl⟩
        clear Hyes Hno Hst hmk Hx2
        go_wp2_with fail
        refine wp_region_gr [(0, true), (1, true), (2, true), (3, true), (4, true), (5, true), (6, true), (7, true), (8, true), (9, true), (10, true), (11, true), (12, true), (13, true), (14, true), (15, true), (16, true), (17, true), (18, true), (19, true), (20, true), (21, true), (22, true), (23, true), (24, true), (25, true), (26, true), (27, true), (28, true), (29, true), (30, true), (31, true), (32, true), (33, true), (34, true), (35, true), (36, true), (37, true), (38, true), (39, true), (40, true), (41, true), (42, true)] (by kernel_rfl) (by kernel_rfl) (by kernel_rfl) (by kernel_rfl) (fun _ _ _ _ _ h => h) ?_
        rw [HW.out]
        iterate 43 (first | (refine wpGr_read (o := ⟨_, _, _, _, _, _⟩) (v := ?_) rfl (by rfl) ?_ ?_; rotate_left; (intro w' hw'; go_simp; with_reducible rfl); simp only [Act.put, List.setIfInBounds_toArray, List.set_cons_zero, List.set_cons_succ]) | (refine wpGr_skip (o := ⟨_, _, _, _, _, _⟩) rfl (by rfl) ?_; simp only [Act.put, List.setIfInBounds_toArray, List.set_cons_zero, List.set_cons_succ]))
        refine wpGr_done ?_
        clear r0 r1 r2
        go_wp2_with fail
        go_ret2
        exact ⟨by rw [e1.out.1, e1.out.2]; rfl, HBW.out⟩
    · obtain rfl : k = n := by omega
      have hD : Hid (mayS es = true) := by show _ = _; rw [hm.out, hI.out]
      have hok := mayS_ok hD.out
      have hE : Hid (mosE es = 0) := by show _ = _; unfold mosE; rw [hD.out]; rfl
      have hN : Hid (mosN es = if es.length = 0 then 0 else 2 * (szs es / 126 + 1) + pgs es) := by show _ = _; unfold mosN; rw [hD.out]; rfl
      by_cases h0 : k = 0
      · have d0 : ((k : Int) == 0) = true := by rw [beq_iff_eq]; omega
        have d0' : (k == 0) = true := by rw [beq_iff_eq]; omega
        have e1 : Hid (mosN es = 0) := by show _ = _; rw [hN.out, if_pos (by have := Hn.out; omega)]
        clear hok h0
        go_wp2
        go_ret2
        exact ⟨by rw [e1.out, hE.out]; rfl, hB.out⟩
      · have d0 : ((k : Int) == 0) = false := by rw [beq_eq_false_iff_ne]; omega
        have d0' : (k == 0) = false := by rw [beq_eq_false_iff_ne]; omega
        have e1 : Hid (mosN es = 2 * (szs es / 126 + 1) + pgs es) := by show _ = _; rw [hN.out, if_neg (by have := Hn.out; omega)]
        have hz := (szs_range hok.2).2
        have hp := pgs_le hok.2
        have hl4 := hok.1
        have Htk := Lib.hid (refTaken_any a k c es wr Hn.out ((Hs.out (by omega)).below hB.out (Nat.le_refl _)) hok.2 (by have := Hn.out; omega))
        have h9 : szs es ≤ 1000000 := by omega
        have h8 : pgs es ≤ 1000000 := by omega
        generalize szs es = S at *
        generalize pgs es = P at *
        obtain ⟨Q, hQ⟩ : ∃ Q, Q = S / 126 := ⟨_, rfl⟩
        have hq9 : Q ≤ 1000000 := by omega
        have eQ : (S : Int).tdiv 126 = (Q : Int) := by rw [Int.tdiv_eq_ediv_of_nonneg (by omega)]; omega
        have e2 : Hid (mosN es = 2 * (Q + 1) + P) := by show _ = _; rw [e1.out, hQ]
        clear hok h0 hz hp hl4 hN e1 hQ
        go_wp2_with fail
        refine Htk.out.mono ?_
        rintro e w3 ⟨rfl, hb3⟩
        have HB3 := Lib.hid (hB.out.trans (hb3.mono hB.out.size))
        clear hb3 Htk
        go_wp2
        go_ret2
        exact ⟨by rw [e2.out, hE.out]; simp; omega, HB3.out⟩
end Go.Proofs.YtbgkjniagedcnaaGreatDoor
