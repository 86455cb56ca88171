/-
  pins' Open.
-/
import Derived.Test.YtdgcghknfhhkiaaDoorPinApp
import Derived.Test.YtdgcghknfhhkiaaDoorPinGet
import Derived.Test.YtdgcghknfhhkiaaDoorGs
namespace Go.Proofs.YtdgcghknfhhkiaaDoor
open Go Go.RowKit

theorem Blk.ps_set {w : World} {b : Nat} {t : TypeId} {N M : Nat} {v u : Value} (h : Blk w b t (psv N v)) : Blk ((w.setCell ⟨b, 0, none⟩ (.int .u64 (M : Nat))).setCell ⟨b, 1, none⟩ u) b t (psv M u) := (h.set 0 (.int .u64 (M : Nat))).set 1 u
theorem opE_way (l : List Pn) (N : Nat) : pmayB l N = false ∨ (pmayB l N = true ∧ (l.length = 8 ∨ N = 4611686018427387904)) ∨ (PMay l N ∧ l.length < 8 ∧ N < 4611686018427387904) := by
  by_cases hm : pmayB l N = true
  · have h := (pmayB_iff l N).1 hm
    have h1 := h.few
    have h2 := h.hi
    by_cases h3 : l.length = 8
    · exact .inr (.inl ⟨hm, .inl h3⟩)
    · by_cases h4 : N = 4611686018427387904
      · exact .inr (.inl ⟨hm, .inr h4⟩)
      · exact .inr (.inr ⟨h, by omega, by omega⟩)
  · exact .inl (Bool.eq_false_iff.2 hm)
set_option maxRecDepth 100000 in
theorem open_arg (v : Value) (l : List Pn) (N s : Nat) (f : Nat → Bool) (w : World) (hv : EV pinE w v l) (hm : pmayB l N = false) :
    Calls Tryd.prog 8 #[.agg (psv N v), .int .u64 (s : Nat), .agg (sc f)] w fun e w' => e = .returned (.tuple #[.agg (psv 0 pnil), .int .u64 0, errC 1]) ∧ Below w.heap.size w w' := by
  have H1 := Lib.hid (fun (w1 : World) (h : EV pinE w1 v l) => check_any v l N w1 h)
  have Hv := Lib.hid hv
  rw [show mayE l N = 1 by unfold mayE; rw [if_neg (by rw [hm]; decide)], errC_1] at H1
  obtain ⟨a, c, rfl, _⟩ := hv
  generalize l.length = n at *
  clear hm
  rw [errC_1]
  go_enter Tryd.func8, Tryd.ntmps8
  go_wp2_with (first
    | (refine wpList_box_arr rfl PS (.tmp 0) rfl (psv N (.slice a n c)) (by rfl) ?_; intro g3 w1 hg1 hk1 hb1)
    | (refine wpList_box_arr rfl TS (.tmp 2) rfl (sc f) (by rfl) ?_; intro g5 w2 hg2 hk2 hb2)
    | (refine wpList_alloc_arr rfl PS rfl arrz_PS ?_; intro g6 w3 hg3 hk3 hb3; have hj1 := (hk1.ext hb2).ext hb3; have q0 := hj1.ps0; have q1 := hj1.ps1))
  have HB := Lib.hid (hb1.trans ((hb2.mono hb1.size).trans (hb3.mono (by have := hb1.size; have := hb2.size; omega))))
  have HK3 := Lib.hid hk3
  have Hg : Hid (w.heap.size ≤ g6) := by show _ ≤ _; have := hb1.size; have := hb2.size; omega
  refine (H1.out w3 (Hv.out.ext HB.out)).mono ?_
  rintro e w4 ⟨rfl, hb4⟩
  replace HB := Lib.hid (HB.out.trans (hb4.mono HB.out.size))
  replace HK3 := Lib.hid (HK3.out.ext hb4)
  clear hg1 hg2 hg3 hk1 hk2 hk3 hb1 hb2 hb3 hb4 hj1 q0 q1 H1 Hv
  have c0 := HK3.out.ps0
  have c1 := HK3.out.ps1
  have f0 := HK3.out.fz 0
  have f1 := HK3.out.fz 1
  go_wp2
  refine bodyPost_ret (v := .tuple #[.agg (psv 0 pnil), .int .u64 0, .iface 67 (.int .i64 1)]) ?_ rfl ?_
  · exact results_agg3 agg_PS rfl _ _ g6 _ _ _ (by rfl) (by rfl) (by rfl) HK3.out.ps_set rfl
  · exact ⟨rfl, (HB.out.setCell Hg.out _).setCell Hg.out _⟩
set_option maxRecDepth 100000 in
theorem open_full (v : Value) (l : List Pn) (N s : Nat) (f : Nat → Bool) (w : World) (hv : EV pinE w v l) (hm : pmayB l N = true) (hF : l.length = 8 ∨ N = 4611686018427387904) :
    Calls Tryd.prog 8 #[.agg (psv N v), .int .u64 (s : Nat), .agg (sc f)] w fun e w' => e = .returned (.tuple #[.agg (psv 0 pnil), .int .u64 0, errC 7]) ∧ Below w.heap.size w w' := by
  have H1 := Lib.hid (fun (w1 : World) (h : EV pinE w1 v l) => check_any v l N w1 h)
  have Hv := Lib.hid hv
  rw [show mayE l N = 0 by unfold mayE; rw [if_pos hm], errC_0] at H1
  obtain ⟨a, c, rfl, _⟩ := hv
  generalize l.length = n at *
  clear hm
  rw [errC_7]
  by_cases hn : n = 8
  · have d1 : ((n : Int) == 8) = true := by rw [beq_iff_eq]; omega
    clear hF hn
    go_enter Tryd.func8, Tryd.ntmps8
    go_wp2_with (first
      | (refine wpList_box_arr rfl PS (.tmp 0) rfl (psv N (.slice a n c)) (by rfl) ?_; intro g3 w1 hg1 hk1 hb1)
      | (refine wpList_box_arr rfl TS (.tmp 2) rfl (sc f) (by rfl) ?_; intro g5 w2 hg2 hk2 hb2)
      | (refine wpList_alloc_arr rfl PS rfl arrz_PS ?_; intro g6 w3 hg3 hk3 hb3; have hj1 := (hk1.ext hb2).ext hb3; have q0 := hj1.ps0; have q1 := hj1.ps1))
    have HB := Lib.hid (hb1.trans ((hb2.mono hb1.size).trans (hb3.mono (by have := hb1.size; have := hb2.size; omega))))
    have HK1 := Lib.hid hj1
    have HK2 := Lib.hid (hk2.ext hb3)
    have HK3 := Lib.hid hk3
    have Hg : Hid (w.heap.size ≤ g6) := by show _ ≤ _; have := hb1.size; have := hb2.size; omega
    refine (H1.out w3 (Hv.out.ext HB.out)).mono ?_
    rintro e w4 ⟨rfl, hb4⟩
    replace HB := Lib.hid (HB.out.trans (hb4.mono HB.out.size))
    replace HK1 := Lib.hid (HK1.out.ext hb4)
    replace HK2 := Lib.hid (HK2.out.ext hb4)
    replace HK3 := Lib.hid (HK3.out.ext hb4)
    clear hg1 hg2 hg3 hk1 hk2 hk3 hb1 hb2 hb3 hb4 hj1 q0 q1 H1
    have q0 := HK1.out.ps0
    have q1 := HK1.out.ps1
    have c0 := HK3.out.ps0
    have c1 := HK3.out.ps1
    have f0 := HK3.out.fz 0
    have f1 := HK3.out.fz 1
    
    go_wp2
    refine bodyPost_ret (v := .tuple #[.agg (psv 0 pnil), .int .u64 0, .iface 67 (.int .i64 7)]) ?_ rfl ?_
    · exact results_agg3 agg_PS rfl _ _ g6 _ _ _ (by rfl) (by rfl) (by rfl) HK3.out.ps_set rfl
    · exact ⟨rfl, (HB.out.setCell Hg.out _).setCell Hg.out _⟩
  · obtain rfl : N = 4611686018427387904 := by omega
    have d1 : ((n : Int) == 8) = false := by rw [beq_eq_false_iff_ne]; omega
    clear hF hn
    generalize hNN : 4611686018427387904 = N at *
    have d2 : ((N : Int) == 4611686018427387904) = true := by rw [beq_iff_eq]; omega
    clear hNN
    go_enter Tryd.func8, Tryd.ntmps8
    go_wp2_with (first
      | (refine wpList_box_arr rfl PS (.tmp 0) rfl (psv N (.slice a n c)) (by rfl) ?_; intro g3 w1 hg1 hk1 hb1)
      | (refine wpList_box_arr rfl TS (.tmp 2) rfl (sc f) (by rfl) ?_; intro g5 w2 hg2 hk2 hb2)
      | (refine wpList_alloc_arr rfl PS rfl arrz_PS ?_; intro g6 w3 hg3 hk3 hb3; have hj1 := (hk1.ext hb2).ext hb3; have q0 := hj1.ps0; have q1 := hj1.ps1))
    have HB := Lib.hid (hb1.trans ((hb2.mono hb1.size).trans (hb3.mono (by have := hb1.size; have := hb2.size; omega))))
    have HK1 := Lib.hid hj1
    have HK2 := Lib.hid (hk2.ext hb3)
    have HK3 := Lib.hid hk3
    have Hg : Hid (w.heap.size ≤ g6) := by show _ ≤ _; have := hb1.size; have := hb2.size; omega
    refine (H1.out w3 (Hv.out.ext HB.out)).mono ?_
    rintro e w4 ⟨rfl, hb4⟩
    replace HB := Lib.hid (HB.out.trans (hb4.mono HB.out.size))
    replace HK1 := Lib.hid (HK1.out.ext hb4)
    replace HK2 := Lib.hid (HK2.out.ext hb4)
    replace HK3 := Lib.hid (HK3.out.ext hb4)
    clear hg1 hg2 hg3 hk1 hk2 hk3 hb1 hb2 hb3 hb4 hj1 q0 q1 H1
    have q0 := HK1.out.ps0
    have q1 := HK1.out.ps1
    have c0 := HK3.out.ps0
    have c1 := HK3.out.ps1
    have f0 := HK3.out.fz 0
    have f1 := HK3.out.fz 1
    
    go_wp2
    refine bodyPost_ret (v := .tuple #[.agg (psv 0 pnil), .int .u64 0, .iface 67 (.int .i64 7)]) ?_ rfl ?_
    · exact results_agg3 agg_PS rfl _ _ g6 _ _ _ (by rfl) (by rfl) (by rfl) HK3.out.ps_set rfl
    · exact ⟨rfl, (HB.out.setCell Hg.out _).setCell Hg.out _⟩
/-- Of what lay ahead nothing turns. -/
theorem turn_from {B : Nat} {a b : World} (h : Below B a b) : Turn (fun i => B ≤ i) a b := ⟨h.os, h.tape, h.output, h.size, fun i _ hF => h.block i (by omega)⟩
set_option maxRecDepth 100000 in
set_option maxHeartbeats 1000000 in
theorem open_new (v : Value) (l : List Pn) (N s : Nat) (f : Nat → Bool) (w : World) (hv : EV pinE w v l) (hm : pmayB l N = true) (hl : l.length < 8) (hN : N < 4611686018427387904) :
    Calls Tryd.prog 8 #[.agg (psv N v), .int .u64 (s : Nat), .agg (sc f)] w fun e w' => ∃ u, e = .returned (.tuple #[.agg (psv (N + 1) u), .int .u64 ((N + 1 : Nat) : Int), errC 0]) ∧ EV pinE w' u (l ++ [⟨N + 1, s, f⟩]) ∧ (∀ k, u.ownBlock = some k → w.heap.size ≤ k) ∧ Below w.heap.size w w' := by
  have H1 := Lib.hid (fun (w1 : World) (h : EV pinE w1 v l) => check_any v l N w1 h)
  have HC := Lib.hid (fun (w1 : World) (h : EV pinE w1 v l) => pclone_any v l w1 h (by omega))
  have Hv := Lib.hid hv
  have Hl := Lib.hid hl
  rw [show mayE l N = 0 by unfold mayE; rw [if_pos hm], errC_0] at H1
  obtain ⟨a, c, rfl, _⟩ := hv
  obtain ⟨n, hn⟩ : ∃ n, l.length = n := ⟨_, rfl⟩
  rw [hn] at H1 HC Hv hl Hl ⊢
  have Hn := Lib.hid hn
  obtain ⟨M, hM⟩ : ∃ M, N + 1 = M := ⟨_, rfl⟩
  have hw : IntKind.u64.wrap ((N : Int) + 1) = (M : Int) := by rw [IntKind.wrap_u64]; omega
  rw [hM, errC_0]
  have d1 : ((n : Int) == 8) = false := by rw [beq_eq_false_iff_ne]; omega
  have d2 : ((N : Int) == 4611686018427387904) = false := by rw [beq_eq_false_iff_ne]; omega
  clear hm hn hM
  go_enter Tryd.func8, Tryd.ntmps8
  go_wp2_with (first
    | (refine wpList_box_arr rfl PS (.tmp 0) rfl (psv N (.slice a n c)) (by rfl) ?_; intro g3 w1 hg1 hk1 hb1)
    | (refine wpList_box_arr rfl TS (.tmp 2) rfl (sc f) (by rfl) ?_; intro g5 w2 hg2 hk2 hb2)
    | (refine wpList_alloc_arr rfl PS rfl arrz_PS ?_; intro g6 w3 hg3 hk3 hb3; have hj1 := (hk1.ext hb2).ext hb3; have q0 := hj1.ps0; have q1 := hj1.ps1))
  have HB := Lib.hid (hb1.trans ((hb2.mono hb1.size).trans (hb3.mono (by have := hb1.size; have := hb2.size; omega))))
  have HK1 := Lib.hid hj1
  have HK2 := Lib.hid (hk2.ext hb3)
  have HK3 := Lib.hid hk3
  have Hg : Hid (w.heap.size ≤ g6) := by show _ ≤ _; have := hb1.size; have := hb2.size; omega
  refine (H1.out w3 (Hv.out.ext HB.out)).mono ?_
  rintro e w4 ⟨rfl, hb4⟩
  replace HB := Lib.hid (HB.out.trans (hb4.mono HB.out.size))
  replace HK1 := Lib.hid (HK1.out.ext hb4)
  replace HK2 := Lib.hid (HK2.out.ext hb4)
  replace HK3 := Lib.hid (HK3.out.ext hb4)
  clear hg1 hg2 hg3 hk1 hk2 hk3 hb1 hb2 hb3 hb4 hj1 q0 q1 H1
  have q0 := HK1.out.ps0
  have q1 := HK1.out.ps1
  have c0 := HK3.out.ps0
  have c1 := HK3.out.ps1
  have f0 := HK3.out.fz 0
  have f1 := HK3.out.fz 1
  
  clear c0 c1 f0 f1
  go_wp2_with fail
  obtain ⟨B5, hB5⟩ : ∃ B5, w4.heap.size = B5 := ⟨_, rfl⟩
  refine wp_region_gs (F := fun i => B5 ≤ i) (.rd 0 (.rd 1 (.rd 3 (.rd 4 (.rd 5 (.rd 6 (.two 2 (.call 7 (.call 8 (.rd 9 .done))) 7 (.call 2 (.call 8 (.rd 9 .done)))))))))) (by kernel_rfl) (by kernel_rfl) (by kernel_rfl) (by kernel_rfl) (fun _ _ _ _ _ h => h) ?_
  replace HB : Hid (Below w.heap.size w w4.drew) := HB.out.drew
  replace HK1 : Hid (Blk w4.drew g3 PS (psv N (.slice a n c))) := HK1.out
  replace HK2 : Hid (Blk w4.drew g5 TS (sc f)) := HK2.out
  replace HK3 : Hid (Blk w4.drew g6 PS (psv 0 pnil)) := HK3.out
  replace hB5 : w4.drew.heap.size = B5 := hB5
  clear q0 q1
  generalize w4.drew = w5 at *
  have HBs : Hid (w.heap.size ≤ B5) := by rw [← hB5]; exact HB.out.size
  have r1 : ∀ w', Turn (fun i => B5 ≤ i) w5 w' → w'.cell? ⟨g3, 1, none⟩ = some (.slice a n c) := fun w' ht => (HK1.out.turn ht (by have := HK1.out.lt; omega)).ps1
  have r5 : Hid (∀ w', Turn (fun i => B5 ≤ i) w5 w' → At w' g5 0 (sc f)) := fun w' ht => (HK2.out.turn ht (by have := HK2.out.lt; omega)).at
  iterate 4 (refine wpGs_read (o := ⟨_, _, _, _, _, _⟩) (v := ?_) rfl (by rfl) ?_ ?_; rotate_left; (intro w' hw'; go_simp; with_reducible rfl); simp only [Act.put, List.setIfInBounds_toArray, List.set_cons_zero, List.set_cons_succ])
  refine wpGs_read (o := ⟨_, _, _, _, _, _⟩) (v := .agg (sc f)) rfl (by rfl) (fun w' hw' => rd_load_agg TS (.tmp 5) rfl g5 0 (sc f) (by rfl) agg_TS (r5.out w' hw') (sc_size _)) ?_
  simp only [Act.put, List.setIfInBounds_toArray, List.set_cons_zero, List.set_cons_succ]
  refine wpGs_read (o := ⟨_, _, _, _, _, _⟩) (v := .agg (pv ⟨M, s, f⟩)) rfl (by rfl) (fun w' hw' => rd_build_pin (.tmp 35) (.tmp 36) (.tmp 37) rfl M s f (by rfl) (by rfl) (by rfl)) ?_
  simp only [Act.put, List.setIfInBounds_toArray, List.set_cons_zero, List.set_cons_succ]
  refine ⟨?_, ?_⟩
  · skip
    refine stepS_call (o := ⟨_, _, _, _, _, _⟩) rfl (by rfl) (fun K hK => ?_)
    go_simp
    refine (HC.out w5 (Hv.out.below HB.out (Nat.le_refl _))).mono ?_
    rintro e w6 ⟨u, rfl, ho6, hb6⟩
    rw [hB5] at ho6 hb6
    refine hK _ _ (turn_from hb6) ?_
    clear hK K
    refine stepS_call (o := ⟨_, _, _, _, _, _⟩) rfl (by rfl) (fun K hK => ?_)
    refine wp_slice_pin (.tmp 38) rfl ⟨M, s, f⟩ (by rfl) ?_
    refine hK _ _ ((Turn.refl _ _).alloc _) ?_
    clear hK K
    have hal := plit w6 PT ⟨M, s, f⟩
    have hoa := ho6.alloc (.cells (pv ⟨M, s, f⟩) PT)
    have hba : Below B5 w5 (w6.alloc (.cells (pv ⟨M, s, f⟩) PT)) := hb6.alloc (by rw [← hB5]; exact hb6.size) _
    have hsa : B5 ≤ (w6.alloc (.cells (pv ⟨M, s, f⟩) PT)).heap.size := by rw [← hB5]; exact hba.size
    rw [← Hn.out] at hoa
    obtain ⟨v7, w7, hrun, hb7, ho7⟩ := papp_own SPT SPT PT Tryd.underlying28 pinfo w6.heap.size ⟨M, s, f⟩ hoa hsa hal (by have := Hl.out; rw [Hn.out]; omega)
    have hb57 := hba.trans hb7
    simp only [Act.put, List.setIfInBounds_toArray, List.set_cons_zero, List.set_cons_succ]
    refine stepS_call (o := ⟨_, _, _, _, _, _⟩) rfl (by rfl) (fun K hK => ?_)
    refine wp_app_run (.tmp 34) (.tmp 39) SPT rfl (by rfl) (by rfl) hrun ?_
    clear hal hoa hba hsa hrun ho6 hb6
    refine hK _ _ (turn_from hb7) ?_
    clear hK K
    simp only [Act.put, List.setIfInBounds_toArray, List.set_cons_zero, List.set_cons_succ]
    (refine wpGs_read (o := ⟨_, _, _, _, _, _⟩) (v := ?_) rfl (by rfl) ?_ ?_; rotate_left; (intro w' hw'; go_simp; with_reducible rfl); simp only [Act.put, List.setIfInBounds_toArray, List.set_cons_zero, List.set_cons_succ])
    refine wpGs_done ?_
    have hg6 : g6 < B5 := by rw [← hB5]; exact HK3.out.lt
    have hbw : Below B5 w5 w7 := hb57
    obtain ⟨a7, c7, rfl, _⟩ := own_pin ho7
    obtain ⟨v7, hv7⟩ : ∃ v7, Value.slice a7 (l ++ [(⟨M, s, f⟩ : Pn)]).length c7 = v7 := ⟨_, rfl⟩
    rw [hv7] at ho7
    have HX : Hid (EV pinE ((w7.setCell ⟨g6, 0, none⟩ (.int .u64 (M : Nat))).setCell ⟨g6, 1, none⟩ v7) v7 (l ++ [⟨M, s, f⟩])) := own_pin (ownsRow_setCell_below (ownsRow_setCell_below ho7 hg6 _) hg6 _)
    have HB7 := Lib.hid (HB.out.trans (hbw.mono HBs.out))
    have HK7 := Lib.hid (HK3.out.below hbw hg6)
    have HO : Hid (∀ k, v7.ownBlock = some k → w.heap.size ≤ k) := fun k hk => Nat.le_trans HBs.out (ho7.lt k hk).1
    clear hbw hb7 ho7 HK1 HK2 HK3 r1 r5 Hv HC hg6
    subst hv7
    generalize (l ++ [(⟨M, s, f⟩ : Pn)]).length = n7 at *
    have c0 := HK7.out.ps0
    have c1 := HK7.out.ps1
    have f0 := HK7.out.fz 0
    have f1 := HK7.out.fz 1
    go_wp2
    refine bodyPost_ret (v := .tuple #[.agg (psv M (.slice a7 n7 c7)), .int .u64 (M : Nat), .nilIface]) ?_ rfl ?_
    · exact results_agg3 agg_PS rfl _ _ g6 _ _ _ (by rfl) (by rfl) (by rfl) HK7.out.ps_set rfl
    · exact ⟨_, rfl, HX.out, HO.out, (HB7.out.setCell Hg.out _).setCell Hg.out _⟩
  · skip
    refine stepS_call (o := ⟨_, _, _, _, _, _⟩) rfl (by rfl) (fun K hK => ?_)
    refine wp_slice_pin (.tmp 38) rfl ⟨M, s, f⟩ (by rfl) ?_
    refine hK _ _ ((Turn.refl _ _).alloc _) ?_
    clear hK K
    have hal := plit w5 PT ⟨M, s, f⟩
    have hba : Below B5 w5 (w5.alloc (.cells (pv ⟨M, s, f⟩) PT)) := (Below.refl _ _).alloc (by omega) _
    rw [hB5] at hal
    generalize w5.alloc (.cells (pv ⟨M, s, f⟩) PT) = w6 at *
    have hs6 : B5 ≤ w6.heap.size := by rw [← hB5]; exact hba.size
    have r6 : ∀ w', Turn (fun i => B5 ≤ i) w6 w' → w'.cell? ⟨g3, 1, none⟩ = some (.slice a n c) := fun w' ht => r1 w' ((turn_from hba).trans ht)
    simp only [Act.put, List.setIfInBounds_toArray, List.set_cons_zero, List.set_cons_succ]
    refine stepS_call (o := ⟨_, _, _, _, _, _⟩) rfl (by rfl) (fun K hK => ?_)
    go_simp
    refine (HC.out w6 ((Hv.out.below HB.out (Nat.le_refl _)).below hba (by omega))).mono ?_
    rintro e w8 ⟨u, rfl, ho6, hb6⟩
    refine hK _ _ (turn_from (hb6.mono hs6)) ?_
    clear hK K
    have hal8 := hal.below hb6 (Nat.le_refl _)
    have hs8 : B5 ≤ w8.heap.size := Nat.le_trans hs6 hb6.size
    have hoa := ho6.mono hs6
    rw [← Hn.out] at hoa
    obtain ⟨v7, w7, hrun, hb7, ho7⟩ := papp_own SPT SPT PT Tryd.underlying28 pinfo B5 ⟨M, s, f⟩ hoa hs8 hal8 (by have := Hl.out; rw [Hn.out]; omega)
    have hb57 : Below B5 w5 w7 := (hba.trans (hb6.mono hs6)).trans hb7
    refine stepS_call (o := ⟨_, _, _, _, _, _⟩) rfl (by rfl) (fun K hK => ?_)
    refine wp_app_run (.tmp 34) (.tmp 39) SPT rfl (by rfl) (by rfl) hrun ?_
    clear hal hal8 hoa hba hs6 hs8 hrun ho6 hb6 r6
    refine hK _ _ (turn_from hb7) ?_
    clear hK K
    simp only [Act.put, List.setIfInBounds_toArray, List.set_cons_zero, List.set_cons_succ]
    (refine wpGs_read (o := ⟨_, _, _, _, _, _⟩) (v := ?_) rfl (by rfl) ?_ ?_; rotate_left; (intro w' hw'; go_simp; with_reducible rfl); simp only [Act.put, List.setIfInBounds_toArray, List.set_cons_zero, List.set_cons_succ])
    refine wpGs_done ?_
    have hg6 : g6 < B5 := by rw [← hB5]; exact HK3.out.lt
    have hbw : Below B5 w5 w7 := hb57
    obtain ⟨a7, c7, rfl, _⟩ := own_pin ho7
    obtain ⟨v7, hv7⟩ : ∃ v7, Value.slice a7 (l ++ [(⟨M, s, f⟩ : Pn)]).length c7 = v7 := ⟨_, rfl⟩
    rw [hv7] at ho7
    have HX : Hid (EV pinE ((w7.setCell ⟨g6, 0, none⟩ (.int .u64 (M : Nat))).setCell ⟨g6, 1, none⟩ v7) v7 (l ++ [⟨M, s, f⟩])) := own_pin (ownsRow_setCell_below (ownsRow_setCell_below ho7 hg6 _) hg6 _)
    have HB7 := Lib.hid (HB.out.trans (hbw.mono HBs.out))
    have HK7 := Lib.hid (HK3.out.below hbw hg6)
    have HO : Hid (∀ k, v7.ownBlock = some k → w.heap.size ≤ k) := fun k hk => Nat.le_trans HBs.out (ho7.lt k hk).1
    clear hbw hb7 ho7 HK1 HK2 HK3 r1 r5 Hv HC hg6
    subst hv7
    generalize (l ++ [(⟨M, s, f⟩ : Pn)]).length = n7 at *
    have c0 := HK7.out.ps0
    have c1 := HK7.out.ps1
    have f0 := HK7.out.fz 0
    have f1 := HK7.out.fz 1
    go_wp2
    refine bodyPost_ret (v := .tuple #[.agg (psv M (.slice a7 n7 c7)), .int .u64 (M : Nat), .nilIface]) ?_ rfl ?_
    · exact results_agg3 agg_PS rfl _ _ g6 _ _ _ (by rfl) (by rfl) (by rfl) HK7.out.ps_set rfl
    · exact ⟨_, rfl, HX.out, HO.out, (HB7.out.setCell Hg.out _).setCell Hg.out _⟩
theorem open_yes (v : Value) (l : List Pn) (N s : Nat) (f : Nat → Bool) (w : World) (hv : EV pinE w v l) (hm : pmayB l N = true) (hl : l.length < 8) (hN : N < 4611686018427387904) :
    Calls Tryd.prog 8 #[.agg (psv N v), .int .u64 (s : Nat), .agg (sc f)] w fun e w' => ∃ u, e = .returned (.tuple #[.agg (psv (N + 1) u), .int .u64 ((N + 1 : Nat) : Int), errC 0]) ∧ EV pinE w' u (l ++ [⟨N + 1, s, f⟩]) ∧ Below w.heap.size w w' := by
  refine (open_new v l N s f w hv hm hl hN).mono ?_
  rintro e w' ⟨u, h1, h2, _, h3⟩
  exact ⟨u, h1, h2, h3⟩
theorem open_any (v : Value) (l : List Pn) (N s : Nat) (f : Nat → Bool) (w : World) (hv : EV pinE w v l) :
    Calls Tryd.prog 8 #[.agg (psv N v), .int .u64 (s : Nat), .agg (sc f)] w fun e w' => ∃ u, e = .returned (.tuple #[.agg (psv (opN l N) u), .int .u64 (opN l N : Nat), errC (opE l N)]) ∧ EV pinE w' u (opL l N s f) ∧ Below w.heap.size w w' := by
  rcases opE_way l N with h | ⟨h, h2⟩ | ⟨h, h2, h3⟩
  · have e := opE_arg h
    refine (open_arg v l N s f w hv h).mono ?_
    rintro e2 w' ⟨rfl, hb⟩
    exact ⟨pnil, by unfold opN; rw [e, if_neg (by decide)]; rfl, by unfold opL; rw [e, if_neg (by decide)]; exact EV.none _, hb⟩
  · have e := opE_full ((pmayB_iff l N).1 h) h2
    refine (open_full v l N s f w hv h h2).mono ?_
    rintro e2 w' ⟨rfl, hb⟩
    exact ⟨pnil, by unfold opN; rw [e, if_neg (by decide)]; rfl, by unfold opL; rw [e, if_neg (by decide)]; exact EV.none _, hb⟩
  · have e := opE_yes h h2 h3
    refine (open_yes v l N s f w hv ((pmayB_iff l N).2 h) h2 h3).mono ?_
    rintro e2 w' ⟨u, rfl, hu, hb⟩
    exact ⟨u, by unfold opN; rw [e, if_pos rfl], by unfold opL; rw [e, if_pos rfl]; exact hu, hb⟩
end Go.Proofs.YtdgcghknfhhkiaaDoor
