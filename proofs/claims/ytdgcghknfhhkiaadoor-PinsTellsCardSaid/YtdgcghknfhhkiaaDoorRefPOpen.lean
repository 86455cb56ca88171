/-
  The document's Open.
-/
import Derived.Test.YtdgcghknfhhkiaaDoorRefPMay
import Derived.Test.YtdgcghknfhhkiaaDoorPinOpen
namespace Go.Proofs.YtdgcghknfhhkiaaDoor
open Go Go.RowKit

/-- An argument's readers, appended to none. -/
theorem papp_arg {w : World} {a : Option Addr} {n c : Nat} {l : List Pn} (t ty T : TypeId) (ht : Tryd.prog.underlying t = some (.slice T)) (h2 : (Tryd.prog.info? T).map (fun i => (i.zero, i.size, i.bytes)) = some (some pinE.zero, pinE.sz, pinE.by_))
    (hn : l.length = n) (hs : PA w a l) (hl : n * 144 ≤ 140737488355328) :
    ∃ v' w', (Builtin.append_ #[t, t] ty #[pnil, .slice a n c]).run Tryd.prog w = .ok v' w' ∧ Below w.heap.size w w' ∧ w'.ownsRow w.heap.size T 18 v' l.length (pinE.row l) := by
  obtain ⟨i0, hi, hz, hs0, hb0⟩ := info_parts h2
  rcases Nat.eq_zero_or_pos n with h0 | h0
  · subst h0
    obtain rfl : l = [] := List.eq_nil_of_length_eq_zero hn
    have hsrc : Go.Src Tryd.prog pinE.sz t (.slice a 0 c) 0 [] w := by
      cases a with
      | none => exact Go.Src.ofNil w ht c
      | some ad => exact Go.Src.ofSlice w ht ad 0 c [] (by simp) (fun j u hu => by simp at hu) (fun u hu => by cases hu)
    exact ⟨_, _, run_append_nothing w t t ty T i0 ht hi none 0 0 (Nat.le_refl _) _ (by rw [hs0]; exact hsrc), Below.refl _ _, World.ownsRow_nil _ _ _ _⟩
  · have he := hs (by omega)
    obtain ⟨g, o, rfl, _⟩ := he.pin (by omega)
    obtain ⟨v', w', hr, hb2, ho⟩ := run_app_own (P := Tryd.prog) (E := pinE) w.heap.size t ty T ht h2 pnil 0 [] (World.ownsRow_nil _ _ _ _) (Nat.le_refl _) (some ⟨g, o, none⟩) n c l hn (fun h => by cases h) he (by unfold maxLen; omega) (by show _ * 144 ≤ _; omega)
    rw [List.nil_append, Nat.zero_add] at ho
    exact ⟨v', w', hr, hb2, by rw [hn]; exact ho⟩
set_option maxRecDepth 100000 in
theorem refOpen_arg (v : Value) (l : List Pn) (N s : Nat) (f : Nat → Bool) (w : World) (hv : PV w v l) (hm : pmayB l N = false) :
    Calls Tryd.prog 9 #[.agg (psv N v), .int .u64 (s : Nat), .agg (sc f)] w fun e w' => e = .returned (.tuple #[.agg (psv 0 pnil), .int .u64 0, .int .i64 1]) ∧ Below w.heap.size w w' := by
  have H1 := Lib.hid (fun (w1 : World) (h : PV w1 v l) => refMay_any v l N w1 h)
  have Hv := Lib.hid hv
  rw [hm] at H1
  obtain ⟨a, c, rfl, _⟩ := hv
  generalize l.length = n at *
  clear hm
  go_enter Tryd.func9, Tryd.ntmps9
  go_wp2_with (first
    | (refine wpList_box_arr rfl RPS (.tmp 0) rfl (psv N (.slice a n c)) (by rfl) ?_; intro g3 w1 hg1 hk1 hb1)
    | (refine wpList_box_arr rfl TW (.tmp 2) rfl (sc f) (by rfl) ?_; intro g5 w2 hg2 hk2 hb2)
    | (refine wpList_alloc_arr rfl RPS rfl arrz_RPS ?_; intro g6 w3 hg3 hk3 hb3; have hj1 := (hk1.ext hb2).ext hb3; have q0 := hj1.ps0; have q1 := hj1.ps1))
  have HB := Lib.hid (hb1.trans ((hb2.mono hb1.size).trans (hb3.mono (by have := hb1.size; have := hb2.size; omega))))
  have HK1 := Lib.hid hj1
  have HK2 := Lib.hid (hk2.ext hb3)
  have HK3 := Lib.hid hk3
  have Hg : Hid (w.heap.size ≤ g6 ∧ g3 ≠ g6) := ⟨by have := hb1.size; have := hb2.size; omega, by have := hk1.lt; have := hb2.size; omega⟩
  refine (H1.out w3 (Hv.out.ext HB.out)).mono ?_
  rintro e w4 ⟨rfl, hb4⟩
  replace HB := Lib.hid (HB.out.trans (hb4.mono HB.out.size))
  replace HK1 := Lib.hid (HK1.out.ext hb4)
  replace HK2 := Lib.hid (HK2.out.ext hb4)
  replace HK3 := Lib.hid (HK3.out.ext hb4)
  clear hg1 hg2 hg3 hk1 hk2 hk3 hb1 hb2 hb3 hb4 hj1 q0 q1 H1
  have q0 := HK1.out.ps0
  have q1 := HK1.out.ps1
  have c0 := HK3.out.ps0
  have c1 := HK3.out.ps1
  have f0 := HK3.out.fz 0
  have f1 := HK3.out.fz 1
  
  go_wp2
  refine bodyPost_ret (v := .tuple #[.agg (psv 0 pnil), .int .u64 0, .int .i64 1]) ?_ rfl ?_
  · exact results_agg3 agg_RPS rfl _ _ g6 _ _ _ (by rfl) (by rfl) (by rfl) HK3.out.ps_set rfl
  · exact ⟨rfl, (HB.out.setCell Hg.out.1 _).setCell Hg.out.1 _⟩
  
set_option maxRecDepth 100000 in
theorem refOpen_full (v : Value) (l : List Pn) (N s : Nat) (f : Nat → Bool) (w : World) (hv : PV w v l) (hm : pmayB l N = true) (hF : l.length = 8 ∨ N = 4611686018427387904) :
    Calls Tryd.prog 9 #[.agg (psv N v), .int .u64 (s : Nat), .agg (sc f)] w fun e w' => e = .returned (.tuple #[.agg (psv 0 pnil), .int .u64 0, .int .i64 7]) ∧ Below w.heap.size w w' := by
  have H1 := Lib.hid (fun (w1 : World) (h : PV w1 v l) => refMay_any v l N w1 h)
  have Hv := Lib.hid hv
  have h8 := ((pmayB_iff l N).1 hm).few
  rw [hm] at H1
  obtain ⟨a, c, rfl, _⟩ := hv
  generalize l.length = n at *
  clear hm
  by_cases hn : n = 8
  · have d1 : decide ((7 : Int) < (n : Int)) = true := decide_eq_true (by omega)
    clear hF hn h8
    go_enter Tryd.func9, Tryd.ntmps9
    go_wp2_with (first
      | (refine wpList_box_arr rfl RPS (.tmp 0) rfl (psv N (.slice a n c)) (by rfl) ?_; intro g3 w1 hg1 hk1 hb1)
      | (refine wpList_box_arr rfl TW (.tmp 2) rfl (sc f) (by rfl) ?_; intro g5 w2 hg2 hk2 hb2)
      | (refine wpList_alloc_arr rfl RPS rfl arrz_RPS ?_; intro g6 w3 hg3 hk3 hb3; have hj1 := (hk1.ext hb2).ext hb3; have q0 := hj1.ps0; have q1 := hj1.ps1))
    have HB := Lib.hid (hb1.trans ((hb2.mono hb1.size).trans (hb3.mono (by have := hb1.size; have := hb2.size; omega))))
    have HK1 := Lib.hid hj1
    have HK2 := Lib.hid (hk2.ext hb3)
    have HK3 := Lib.hid hk3
    have Hg : Hid (w.heap.size ≤ g6 ∧ g3 ≠ g6) := ⟨by have := hb1.size; have := hb2.size; omega, by have := hk1.lt; have := hb2.size; omega⟩
    refine (H1.out w3 (Hv.out.ext HB.out)).mono ?_
    rintro e w4 ⟨rfl, hb4⟩
    replace HB := Lib.hid (HB.out.trans (hb4.mono HB.out.size))
    replace HK1 := Lib.hid (HK1.out.ext hb4)
    replace HK2 := Lib.hid (HK2.out.ext hb4)
    replace HK3 := Lib.hid (HK3.out.ext hb4)
    clear hg1 hg2 hg3 hk1 hk2 hk3 hb1 hb2 hb3 hb4 hj1 q0 q1 H1
    have q0 := HK1.out.ps0
    have q1 := HK1.out.ps1
    have c0 := HK3.out.ps0
    have c1 := HK3.out.ps1
    have f0 := HK3.out.fz 0
    have f1 := HK3.out.fz 1
    
    go_wp2
    refine bodyPost_ret (v := .tuple #[.agg (psv 0 pnil), .int .u64 0, .int .i64 7]) ?_ rfl ?_
    · exact results_agg3 agg_RPS rfl _ _ g6 _ _ _ (by rfl) (by rfl) (by rfl) HK3.out.ps_set rfl
    · exact ⟨rfl, (HB.out.setCell Hg.out.1 _).setCell Hg.out.1 _⟩
    
  · obtain rfl : N = 4611686018427387904 := by omega
    have d1 : decide ((7 : Int) < (n : Int)) = false := decide_eq_false (by omega)
    clear hF hn h8
    generalize hNN : 4611686018427387904 = N at *
    have d2 : ((N : Int) == 4611686018427387904) = true := by rw [beq_iff_eq]; omega
    clear hNN
    go_enter Tryd.func9, Tryd.ntmps9
    go_wp2_with (first
      | (refine wpList_box_arr rfl RPS (.tmp 0) rfl (psv N (.slice a n c)) (by rfl) ?_; intro g3 w1 hg1 hk1 hb1)
      | (refine wpList_box_arr rfl TW (.tmp 2) rfl (sc f) (by rfl) ?_; intro g5 w2 hg2 hk2 hb2)
      | (refine wpList_alloc_arr rfl RPS rfl arrz_RPS ?_; intro g6 w3 hg3 hk3 hb3; have hj1 := (hk1.ext hb2).ext hb3; have q0 := hj1.ps0; have q1 := hj1.ps1))
    have HB := Lib.hid (hb1.trans ((hb2.mono hb1.size).trans (hb3.mono (by have := hb1.size; have := hb2.size; omega))))
    have HK1 := Lib.hid hj1
    have HK2 := Lib.hid (hk2.ext hb3)
    have HK3 := Lib.hid hk3
    have Hg : Hid (w.heap.size ≤ g6 ∧ g3 ≠ g6) := ⟨by have := hb1.size; have := hb2.size; omega, by have := hk1.lt; have := hb2.size; omega⟩
    refine (H1.out w3 (Hv.out.ext HB.out)).mono ?_
    rintro e w4 ⟨rfl, hb4⟩
    replace HB := Lib.hid (HB.out.trans (hb4.mono HB.out.size))
    replace HK1 := Lib.hid (HK1.out.ext hb4)
    replace HK2 := Lib.hid (HK2.out.ext hb4)
    replace HK3 := Lib.hid (HK3.out.ext hb4)
    clear hg1 hg2 hg3 hk1 hk2 hk3 hb1 hb2 hb3 hb4 hj1 q0 q1 H1
    have q0 := HK1.out.ps0
    have q1 := HK1.out.ps1
    have c0 := HK3.out.ps0
    have c1 := HK3.out.ps1
    have f0 := HK3.out.fz 0
    have f1 := HK3.out.fz 1
    
    go_wp2
    refine bodyPost_ret (v := .tuple #[.agg (psv 0 pnil), .int .u64 0, .int .i64 7]) ?_ rfl ?_
    · exact results_agg3 agg_RPS rfl _ _ g6 _ _ _ (by rfl) (by rfl) (by rfl) HK3.out.ps_set rfl
    · exact ⟨rfl, (HB.out.setCell Hg.out.1 _).setCell Hg.out.1 _⟩
    
set_option maxRecDepth 100000 in
set_option maxHeartbeats 2000000 in
theorem refOpen_yes (v : Value) (l : List Pn) (N s : Nat) (f : Nat → Bool) (w : World) (hv : PV w v l) (hm : pmayB l N = true) (hl : l.length < 8) (hN : N < 4611686018427387904) :
    Calls Tryd.prog 9 #[.agg (psv N v), .int .u64 (s : Nat), .agg (sc f)] w fun e w' => ∃ u, e = .returned (.tuple #[.agg (psv (N + 1) u), .int .u64 ((N + 1 : Nat) : Int), .int .i64 0]) ∧ EV pinE w' u (l ++ [⟨N + 1, s, f⟩]) ∧ Below w.heap.size w w' := by
  have H1 := Lib.hid (fun (w1 : World) (h : PV w1 v l) => refMay_any v l N w1 h)
  have Hv := Lib.hid hv
  have Hl := Lib.hid hl
  rw [hm] at H1
  obtain ⟨a, c, rfl, hs, _⟩ := hv
  have Hs := Lib.hid hs
  obtain ⟨n, hn⟩ : ∃ n, l.length = n := ⟨_, rfl⟩
  rw [hn] at H1 Hv hl Hl ⊢
  have Hn := Lib.hid hn
  obtain ⟨M, hM⟩ : ∃ M, N + 1 = M := ⟨_, rfl⟩
  have hw : IntKind.u64.wrap ((N : Int) + 1) = (M : Int) := by rw [IntKind.wrap_u64]; omega
  rw [hM]
  have d1 : decide ((7 : Int) < (n : Int)) = false := decide_eq_false (by omega)
  have d2 : ((N : Int) == 4611686018427387904) = false := by rw [beq_eq_false_iff_ne]; omega
  clear hm hn hM hs
  go_enter Tryd.func9, Tryd.ntmps9
  go_wp2_with (first
    | (refine wpList_box_arr rfl RPS (.tmp 0) rfl (psv N (.slice a n c)) (by rfl) ?_; intro g3 w1 hg1 hk1 hb1)
    | (refine wpList_box_arr rfl TW (.tmp 2) rfl (sc f) (by rfl) ?_; intro g5 w2 hg2 hk2 hb2)
    | (refine wpList_alloc_arr rfl RPS rfl arrz_RPS ?_; intro g6 w3 hg3 hk3 hb3; have hj1 := (hk1.ext hb2).ext hb3; have q0 := hj1.ps0; have q1 := hj1.ps1))
  have HB := Lib.hid (hb1.trans ((hb2.mono hb1.size).trans (hb3.mono (by have := hb1.size; have := hb2.size; omega))))
  have HK1 := Lib.hid hj1
  have HK2 := Lib.hid (hk2.ext hb3)
  have HK3 := Lib.hid hk3
  have Hg : Hid (w.heap.size ≤ g6 ∧ g3 ≠ g6) := ⟨by have := hb1.size; have := hb2.size; omega, by have := hk1.lt; have := hb2.size; omega⟩
  refine (H1.out w3 (Hv.out.ext HB.out)).mono ?_
  rintro e w4 ⟨rfl, hb4⟩
  replace HB := Lib.hid (HB.out.trans (hb4.mono HB.out.size))
  replace HK1 := Lib.hid (HK1.out.ext hb4)
  replace HK2 := Lib.hid (HK2.out.ext hb4)
  replace HK3 := Lib.hid (HK3.out.ext hb4)
  clear hg1 hg2 hg3 hk1 hk2 hk3 hb1 hb2 hb3 hb4 hj1 q0 q1 H1
  have q0 := HK1.out.ps0
  have q1 := HK1.out.ps1
  have c0 := HK3.out.ps0
  have c1 := HK3.out.ps1
  have f0 := HK3.out.fz 0
  have f1 := HK3.out.fz 1
  
  clear c0 c1 f0 f1
  go_wp2_with fail
  obtain ⟨B5, hB5⟩ : ∃ B5, w4.heap.size = B5 := ⟨_, rfl⟩
  refine wp_region_gs (F := fun i => B5 ≤ i) (.rd 0 (.rd 1 (.rd 2 (.rd 4 (.rd 5 (.rd 6 (.rd 7 (.rd 8 (.rd 9 (.two 3 (.call 10 (.call 11 (.rd 12 .done))) 10 (.call 3 (.call 11 (.rd 12 .done))))))))))))) (by kernel_rfl) (by kernel_rfl) (by kernel_rfl) (by kernel_rfl) (fun _ _ _ _ _ h => h) ?_
  replace HB : Hid (Below w.heap.size w w4.drew) := HB.out.drew
  replace HK1 : Hid (Blk w4.drew g3 RPS (psv N (.slice a n c))) := HK1.out
  replace HK2 : Hid (Blk w4.drew g5 TW (sc f)) := HK2.out
  replace HK3 : Hid (Blk w4.drew g6 RPS (psv 0 pnil)) := HK3.out
  replace hB5 : w4.drew.heap.size = B5 := hB5
  clear q0 q1
  generalize w4.drew = w5 at *
  have HBs : Hid (w.heap.size ≤ B5) := by rw [← hB5]; exact HB.out.size
  have r0 : ∀ w', Turn (fun i => B5 ≤ i) w5 w' → w'.cell? ⟨g3, 0, none⟩ = some (.int .u64 (N : Nat)) := fun w' ht => (HK1.out.turn ht (by have := HK1.out.lt; omega)).ps0
  have r1 : ∀ w', Turn (fun i => B5 ≤ i) w5 w' → w'.cell? ⟨g3, 1, none⟩ = some (.slice a n c) := fun w' ht => (HK1.out.turn ht (by have := HK1.out.lt; omega)).ps1
  have r5 : Hid (∀ w', Turn (fun i => B5 ≤ i) w5 w' → At w' g5 0 (sc f)) := fun w' ht => (HK2.out.turn ht (by have := HK2.out.lt; omega)).at
  iterate 7 (refine wpGs_read (o := ⟨_, _, _, _, _, _⟩) (v := ?_) rfl (by rfl) ?_ ?_; rotate_left; (intro w' hw'; go_simp; with_reducible rfl); simp only [Act.put, List.setIfInBounds_toArray, List.set_cons_zero, List.set_cons_succ])
  refine wpGs_read (o := ⟨_, _, _, _, _, _⟩) (v := .agg (sc f)) rfl (by rfl) (fun w' hw' => rd_load_agg TW (.tmp 5) rfl g5 0 (sc f) (by rfl) agg_TW (r5.out w' hw') (sc_size _)) ?_
  simp only [Act.put, List.setIfInBounds_toArray, List.set_cons_zero, List.set_cons_succ]
  refine wpGs_read (o := ⟨_, _, _, _, _, _⟩) (v := .agg (pv ⟨M, s, f⟩)) rfl (by rfl) (fun w' hw' => rd_build_rpin (.tmp 30) (.tmp 31) (.tmp 32) rfl M s f (by rfl) (by rfl) (by rfl)) ?_
  simp only [Act.put, List.setIfInBounds_toArray, List.set_cons_zero, List.set_cons_succ]
  refine ⟨?_, ?_⟩
  · skip
    refine stepS_call (o := ⟨_, _, _, _, _, _⟩) rfl (by rfl) (fun K hK => ?_)
    obtain ⟨u, w6, hrun6, hb6, ho6⟩ := papp_arg (c := c) SRPT SRPT RPT Tryd.underlying23 pinfoR Hn.out (Hs.out.below HB.out (Nat.le_refl _)) (by have := Hl.out; omega)
    refine wp_app_run (.tmp 24) (.tmp 26) SRPT rfl (by rfl) (by rfl) hrun6 ?_
    rw [hB5] at ho6 hb6
    refine hK _ _ (turn_from hb6) ?_
    clear hK K hrun6
    refine stepS_call (o := ⟨_, _, _, _, _, _⟩) rfl (by rfl) (fun K hK => ?_)
    refine wp_slice_rpin (.tmp 33) rfl ⟨M, s, f⟩ (by rfl) ?_
    refine hK _ _ ((Turn.refl _ _).alloc _) ?_
    clear hK K
    have hal := plit w6 RPT ⟨M, s, f⟩
    have hoa := ho6.alloc (.cells (pv ⟨M, s, f⟩) RPT)
    have hba : Below B5 w5 (w6.alloc (.cells (pv ⟨M, s, f⟩) RPT)) := hb6.alloc (by rw [← hB5]; exact hb6.size) _
    have hsa : B5 ≤ (w6.alloc (.cells (pv ⟨M, s, f⟩) RPT)).heap.size := by rw [← hB5]; exact hba.size
    obtain ⟨v7, w7, hrun, hb7, ho7⟩ := papp_own SRPT SRPT RPT Tryd.underlying23 pinfoR w6.heap.size ⟨M, s, f⟩ hoa hsa hal (by have := Hl.out; rw [Hn.out]; omega)
    have hb57 := hba.trans hb7
    simp only [Act.put, List.setIfInBounds_toArray, List.set_cons_zero, List.set_cons_succ]
    refine stepS_call (o := ⟨_, _, _, _, _, _⟩) rfl (by rfl) (fun K hK => ?_)
    refine wp_app_run (.tmp 27) (.tmp 34) SRPT rfl (by rfl) (by rfl) hrun ?_
    clear hal hoa hba hsa hrun ho6 hb6
    refine hK _ _ (turn_from hb7) ?_
    clear hK K
    simp only [Act.put, List.setIfInBounds_toArray, List.set_cons_zero, List.set_cons_succ]
    (refine wpGs_read (o := ⟨_, _, _, _, _, _⟩) (v := ?_) rfl (by rfl) ?_ ?_; rotate_left; (intro w' hw'; go_simp; with_reducible rfl); simp only [Act.put, List.setIfInBounds_toArray, List.set_cons_zero, List.set_cons_succ])
    refine wpGs_done ?_
    have hg6 : g6 < B5 := by rw [← hB5]; exact HK3.out.lt
    have hg3 : g3 < B5 := by rw [← hB5]; exact HK1.out.lt
    have hbw : Below B5 w5 w7 := hb57
    obtain ⟨a7, c7, rfl, _⟩ := own_pin ho7
    obtain ⟨v7, hv7⟩ : ∃ v7, Value.slice a7 (l ++ [(⟨M, s, f⟩ : Pn)]).length c7 = v7 := ⟨_, rfl⟩
    rw [hv7] at ho7
    have HX : Hid (EV pinE ((w7.drew.setCell ⟨g6, 0, none⟩ (.int .u64 (M : Nat))).setCell ⟨g6, 1, none⟩ v7) v7 (l ++ [⟨M, s, f⟩])) := own_pin (ownsRow_setCell_below (ownsRow_setCell_below (w := w7.drew) ho7 hg6 _) hg6 _)
    have HB7 : Hid (Below w.heap.size w w7.drew) := (HB.out.trans (hbw.mono HBs.out)).drew
    have HK7 : Hid (Blk w7.drew g6 RPS (psv 0 pnil)) := HK3.out.below hbw.drew hg6
    have HK9 : Hid (Blk w7.drew g3 RPS (psv N (.slice a n c))) := HK1.out.below hbw.drew hg3
    clear hbw hb7 ho7 HK1 HK2 HK3 r0 r1 r5 Hv hg6 hg3
    subst hv7
    generalize (l ++ [(⟨M, s, f⟩ : Pn)]).length = n7 at *
    go_wp2_with fail
    refine wp_region_gt (F := fun i => i = g6) [(0, true), (1, true), (2, true), (3, true), (4, true), (5, true), (6, true), (7, true), (8, false), (9, true), (10, true)] (by kernel_rfl) (by kernel_rfl) (by kernel_rfl) (by kernel_rfl) (fun _ _ _ _ _ h => h) ?_
    generalize w7.drew = w9 at *
    have HT : Hid (Turn (fun i => i = g6) w9 ((w9.setCell ⟨g6, 0, none⟩ (.int .u64 (M : Nat))).setCell ⟨g6, 1, none⟩ (.slice a7 n7 c7))) := ((Turn.refl (fun i => i = g6) w9).setCell (p := ⟨g6, 0, none⟩) _ (fun _ => rfl)).setCell (p := ⟨g6, 1, none⟩) _ (fun _ => rfl)
    have r0 : ∀ w', Turn (fun i => i = g6) w9 w' → w'.cell? ⟨g3, 0, none⟩ = some (.int .u64 (N : Nat)) := fun w' ht => (HK9.out.turn ht Hg.out.2).ps0
    have c0 := HK7.out.ps0
    have c1 := HK7.out.ps1
    have f0 := HK7.out.fz 0
    have f1 := HK7.out.fz 1
    iterate 8 (refine wpGt_read (o := ⟨_, _, _, _, _, _⟩) (v := ?_) rfl (by rfl) ?_ ?_; rotate_left; (intro w' hw'; go_simp; with_reducible rfl); simp only [Act.put, List.setIfInBounds_toArray, List.set_cons_zero, List.set_cons_succ])
    refine wpGt_call (o := ⟨_, _, _, _, _, _⟩) rfl (by rfl) (fun K hK => ?_)
    go_simp
    refine hK _ _ HT.out ?_
    clear hK K c0 c1 f0 f1 r0
    iterate 2 (refine wpGt_read (o := ⟨_, _, _, _, _, _⟩) (v := ?_) rfl (by rfl) ?_ ?_; rotate_left; (intro w' hw'; go_simp; with_reducible rfl); simp only [Act.put, List.setIfInBounds_toArray, List.set_cons_zero, List.set_cons_succ])
    refine wpGt_done ?_
    go_wp2
    refine bodyPost_ret (v := .tuple #[.agg (psv M (.slice a7 n7 c7)), .int .u64 (M : Nat), .int .i64 0]) ?_ rfl ?_
    · exact results_agg3 agg_RPS rfl _ _ g6 _ _ _ (by rfl) (by rfl) (by rfl) HK7.out.ps_set rfl
    · exact ⟨_, rfl, HX.out, (HB7.out.setCell Hg.out.1 _).setCell Hg.out.1 _⟩
  · skip
    refine stepS_call (o := ⟨_, _, _, _, _, _⟩) rfl (by rfl) (fun K hK => ?_)
    refine wp_slice_rpin (.tmp 33) rfl ⟨M, s, f⟩ (by rfl) ?_
    refine hK _ _ ((Turn.refl _ _).alloc _) ?_
    clear hK K
    have hal := plit w5 RPT ⟨M, s, f⟩
    have hba : Below B5 w5 (w5.alloc (.cells (pv ⟨M, s, f⟩) RPT)) := (Below.refl _ _).alloc (by omega) _
    rw [hB5] at hal
    generalize w5.alloc (.cells (pv ⟨M, s, f⟩) RPT) = w6 at *
    have hs6 : B5 ≤ w6.heap.size := by rw [← hB5]; exact hba.size
    simp only [Act.put, List.setIfInBounds_toArray, List.set_cons_zero, List.set_cons_succ]
    refine stepS_call (o := ⟨_, _, _, _, _, _⟩) rfl (by rfl) (fun K hK => ?_)
    obtain ⟨u, w8, hrun6, hb6, ho6⟩ := papp_arg (c := c) SRPT SRPT RPT Tryd.underlying23 pinfoR Hn.out ((Hs.out.below HB.out (Nat.le_refl _)).below hba (by omega)) (by have := Hl.out; omega)
    refine wp_app_run (.tmp 24) (.tmp 26) SRPT rfl (by rfl) (by rfl) hrun6 ?_
    refine hK _ _ (turn_from (hb6.mono hs6)) ?_
    clear hK K hrun6
    have hal8 := hal.below hb6 (Nat.le_refl _)
    have hs8 : B5 ≤ w8.heap.size := Nat.le_trans hs6 hb6.size
    have hoa := ho6.mono hs6
    obtain ⟨v7, w7, hrun, hb7, ho7⟩ := papp_own SRPT SRPT RPT Tryd.underlying23 pinfoR B5 ⟨M, s, f⟩ hoa hs8 hal8 (by have := Hl.out; rw [Hn.out]; omega)
    have hb57 : Below B5 w5 w7 := (hba.trans (hb6.mono hs6)).trans hb7
    simp only [Act.put, List.setIfInBounds_toArray, List.set_cons_zero, List.set_cons_succ]
    refine stepS_call (o := ⟨_, _, _, _, _, _⟩) rfl (by rfl) (fun K hK => ?_)
    refine wp_app_run (.tmp 27) (.tmp 34) SRPT rfl (by rfl) (by rw [← hB5]; rfl) hrun ?_
    clear hal hal8 hoa hba hs6 hs8 hrun ho6 hb6
    refine hK _ _ (turn_from hb7) ?_
    clear hK K
    simp only [Act.put, List.setIfInBounds_toArray, List.set_cons_zero, List.set_cons_succ]
    (refine wpGs_read (o := ⟨_, _, _, _, _, _⟩) (v := ?_) rfl (by rfl) ?_ ?_; rotate_left; (intro w' hw'; go_simp; with_reducible rfl); simp only [Act.put, List.setIfInBounds_toArray, List.set_cons_zero, List.set_cons_succ])
    refine wpGs_done ?_
    have hg6 : g6 < B5 := by rw [← hB5]; exact HK3.out.lt
    have hg3 : g3 < B5 := by rw [← hB5]; exact HK1.out.lt
    have hbw : Below B5 w5 w7 := hb57
    obtain ⟨a7, c7, rfl, _⟩ := own_pin ho7
    obtain ⟨v7, hv7⟩ : ∃ v7, Value.slice a7 (l ++ [(⟨M, s, f⟩ : Pn)]).length c7 = v7 := ⟨_, rfl⟩
    rw [hv7] at ho7
    have HX : Hid (EV pinE ((w7.drew.setCell ⟨g6, 0, none⟩ (.int .u64 (M : Nat))).setCell ⟨g6, 1, none⟩ v7) v7 (l ++ [⟨M, s, f⟩])) := own_pin (ownsRow_setCell_below (ownsRow_setCell_below (w := w7.drew) ho7 hg6 _) hg6 _)
    have HB7 : Hid (Below w.heap.size w w7.drew) := (HB.out.trans (hbw.mono HBs.out)).drew
    have HK7 : Hid (Blk w7.drew g6 RPS (psv 0 pnil)) := HK3.out.below hbw.drew hg6
    have HK9 : Hid (Blk w7.drew g3 RPS (psv N (.slice a n c))) := HK1.out.below hbw.drew hg3
    clear hbw hb7 ho7 HK1 HK2 HK3 r0 r1 r5 Hv hg6 hg3
    subst hv7
    generalize (l ++ [(⟨M, s, f⟩ : Pn)]).length = n7 at *
    go_wp2_with fail
    refine wp_region_gt (F := fun i => i = g6) [(0, true), (1, true), (2, true), (3, true), (4, true), (5, true), (6, true), (7, true), (8, false), (9, true), (10, true)] (by kernel_rfl) (by kernel_rfl) (by kernel_rfl) (by kernel_rfl) (fun _ _ _ _ _ h => h) ?_
    generalize w7.drew = w9 at *
    have HT : Hid (Turn (fun i => i = g6) w9 ((w9.setCell ⟨g6, 0, none⟩ (.int .u64 (M : Nat))).setCell ⟨g6, 1, none⟩ (.slice a7 n7 c7))) := ((Turn.refl (fun i => i = g6) w9).setCell (p := ⟨g6, 0, none⟩) _ (fun _ => rfl)).setCell (p := ⟨g6, 1, none⟩) _ (fun _ => rfl)
    have r0 : ∀ w', Turn (fun i => i = g6) w9 w' → w'.cell? ⟨g3, 0, none⟩ = some (.int .u64 (N : Nat)) := fun w' ht => (HK9.out.turn ht Hg.out.2).ps0
    have c0 := HK7.out.ps0
    have c1 := HK7.out.ps1
    have f0 := HK7.out.fz 0
    have f1 := HK7.out.fz 1
    iterate 8 (refine wpGt_read (o := ⟨_, _, _, _, _, _⟩) (v := ?_) rfl (by rfl) ?_ ?_; rotate_left; (intro w' hw'; go_simp; with_reducible rfl); simp only [Act.put, List.setIfInBounds_toArray, List.set_cons_zero, List.set_cons_succ])
    refine wpGt_call (o := ⟨_, _, _, _, _, _⟩) rfl (by rfl) (fun K hK => ?_)
    go_simp
    refine hK _ _ HT.out ?_
    clear hK K c0 c1 f0 f1 r0
    iterate 2 (refine wpGt_read (o := ⟨_, _, _, _, _, _⟩) (v := ?_) rfl (by rfl) ?_ ?_; rotate_left; (intro w' hw'; go_simp; with_reducible rfl); simp only [Act.put, List.setIfInBounds_toArray, List.set_cons_zero, List.set_cons_succ])
    refine wpGt_done ?_
    go_wp2
    refine bodyPost_ret (v := .tuple #[.agg (psv M (.slice a7 n7 c7)), .int .u64 (M : Nat), .int .i64 0]) ?_ rfl ?_
    · exact results_agg3 agg_RPS rfl _ _ g6 _ _ _ (by rfl) (by rfl) (by rfl) HK7.out.ps_set rfl
    · exact ⟨_, rfl, HX.out, (HB7.out.setCell Hg.out.1 _).setCell Hg.out.1 _⟩
theorem refOpen_any (v : Value) (l : List Pn) (N s : Nat) (f : Nat → Bool) (w : World) (hv : PV w v l) :
    Calls Tryd.prog 9 #[.agg (psv N v), .int .u64 (s : Nat), .agg (sc f)] w fun e w' => ∃ u, e = .returned (.tuple #[.agg (psv (opN l N) u), .int .u64 (opN l N : Nat), .int .i64 (opE l N)]) ∧ EV pinE w' u (opL l N s f) ∧ Below w.heap.size w w' := by
  rcases opE_way l N with h | ⟨h, h2⟩ | ⟨h, h2, h3⟩
  · have e := opE_arg h
    refine (refOpen_arg v l N s f w hv h).mono ?_
    rintro e2 w' ⟨rfl, hb⟩
    exact ⟨pnil, by unfold opN; rw [e, if_neg (by decide)]; rfl, by unfold opL; rw [e, if_neg (by decide)]; exact EV.none _, hb⟩
  · have e := opE_full ((pmayB_iff l N).1 h) h2
    refine (refOpen_full v l N s f w hv h h2).mono ?_
    rintro e2 w' ⟨rfl, hb⟩
    exact ⟨pnil, by unfold opN; rw [e, if_neg (by decide)]; rfl, by unfold opL; rw [e, if_neg (by decide)]; exact EV.none _, hb⟩
  · have e := opE_yes h h2 h3
    refine (refOpen_yes v l N s f w hv ((pmayB_iff l N).2 h) h2 h3).mono ?_
    rintro e2 w' ⟨u, rfl, hu, hb⟩
    exact ⟨u, by unfold opN; rw [e, if_pos rfl], by unfold opL; rw [e, if_pos rfl]; exact hu, hb⟩
end Go.Proofs.YtdgcghknfhhkiaaDoor
