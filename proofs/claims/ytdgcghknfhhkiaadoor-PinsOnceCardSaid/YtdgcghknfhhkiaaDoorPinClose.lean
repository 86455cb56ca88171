/-
  pins' Close.
-/
import Derived.Test.YtdgcghknfhhkiaaDoorPinDel
import Derived.Test.YtdgcghknfhhkiaaDoorPinOpen
namespace Go.Proofs.YtdgcghknfhhkiaaDoor
open Go Go.RowKit

set_option maxRecDepth 100000 in
theorem close_not (v : Value) (l : List Pn) (N d : Nat) (w : World) (hv : EV pinE w v l) (hE : fiE l N d ≠ 0) :
    Calls Tryd.prog 10 #[.agg (psv N v), .int .u64 (d : Nat)] w fun e w' => e = .returned (.tuple #[.agg (psv 0 pnil), errC (fiE l N d)]) ∧ Below w.heap.size w w' := by
  have H1 := Lib.hid (fun (w1 : World) (h : EV pinE w1 v l) => find_any v l N d w1 h)
  have Hv := Lib.hid hv
  obtain ⟨a, c, rfl, _⟩ := hv
  generalize l.length = n at *
  have ha : fiA l N d = 0 := by unfold fiA; rw [if_neg hE]
  rw [ha, errC_not hE] at H1
  rw [errC_not hE]
  generalize fiE l N d = E at *
  clear hE ha
  go_enter Tryd.func10, Tryd.ntmps10
  go_wp2_with (first
    | (refine wpList_box_arr rfl PS (.tmp 0) rfl (psv N (.slice a n c)) (by rfl) ?_; intro g2 w1 hg1 hk1 hb1)
    | (refine wpList_alloc_arr rfl PS rfl arrz_PS ?_; intro g4 w2 hg2 hk2 hb2; have hj1 := hk1.ext hb2; have q0 := hj1.ps0; have q1 := hj1.ps1))
  have HB := Lib.hid (hb1.trans (hb2.mono hb1.size))
  have HK2 := Lib.hid hk2
  have Hg : Hid (w.heap.size ≤ g4) := by show _ ≤ _; have := hb1.size; omega
  refine (H1.out w2 (Hv.out.ext HB.out)).mono ?_
  rintro e w3 ⟨rfl, hb3⟩
  replace HB := Lib.hid (HB.out.trans (hb3.mono HB.out.size))
  replace HK2 := Lib.hid (HK2.out.ext hb3)
  clear hg1 hg2 hk1 hk2 hb1 hb2 hb3 hj1 q0 q1 H1 Hv
  have c0 := HK2.out.ps0
  have c1 := HK2.out.ps1
  have f0 := HK2.out.fz 0
  have f1 := HK2.out.fz 1
  go_wp2
  refine bodyPost_ret (v := .tuple #[.agg (psv 0 pnil), .iface 67 (.int .i64 E)]) ?_ rfl ?_
  · exact results_agg2 agg_PS rfl _ _ g4 _ _ (by rfl) (by rfl) HK2.out.ps_set rfl
  · exact ⟨rfl, (HB.out.setCell Hg.out _).setCell Hg.out _⟩
set_option maxRecDepth 100000 in
set_option maxHeartbeats 1000000 in
theorem close_new (v : Value) (l : List Pn) (N d k : Nat) (w : World) (hv : EV pinE w v l) (hE : fiE l N d = 0) (hA : fiA l N d = (k : Int)) (hk : k < l.length) (h8 : l.length ≤ 8) :
    Calls Tryd.prog 10 #[.agg (psv N v), .int .u64 (d : Nat)] w fun e w' => ∃ u, e = .returned (.tuple #[.agg (psv N u), errC 0]) ∧ EV pinE w' u (pdel l k) ∧ (∀ x, u.ownBlock = some x → w.heap.size ≤ x) ∧ Below w.heap.size w w' := by
  have H1 := Lib.hid (fun (w1 : World) (h : EV pinE w1 v l) => find_any v l N d w1 h)
  have HC := Lib.hid (fun (w1 : World) (h : EV pinE w1 v l) => pclone_any v l w1 h (by omega))
  have HD := Lib.hid (fun (u : Value) (B : Nat) (w1 : World) (h : w1.ownsRow B PT 18 u l.length (pinE.row l)) => pdel_any u l k B w1 hk h)
  have Hv := Lib.hid hv
  obtain ⟨a, c, rfl, _⟩ := hv
  have hk9 : k < 8 := by omega
  rw [hA, hE, errC_0] at H1
  rw [errC_0]
  obtain ⟨k1, hk1⟩ : ∃ k1, k + 1 = k1 := ⟨_, rfl⟩
  have hw : IntKind.i64.wrap ((k : Int) + 1) = (k1 : Int) := by rw [IntKind.wrap_i64]; omega
  rw [hk1] at HD
  generalize l.length = n at *
  clear hE hA hk h8 hk1
  go_enter Tryd.func10, Tryd.ntmps10
  go_wp2_with (first
    | (refine wpList_box_arr rfl PS (.tmp 0) rfl (psv N (.slice a n c)) (by rfl) ?_; intro g2 w1 hg1 hk1 hb1)
    | (refine wpList_alloc_arr rfl PS rfl arrz_PS ?_; intro g4 w2 hg2 hk2 hb2; have hj1 := hk1.ext hb2; have q0 := hj1.ps0; have q1 := hj1.ps1))
  have HB := Lib.hid (hb1.trans (hb2.mono hb1.size))
  have HK1 := Lib.hid hj1
  have HK2 := Lib.hid hk2
  have Hg : Hid (w.heap.size ≤ g4 ∧ g2 ≠ g4) := ⟨by have := hb1.size; omega, by have := hk1.lt; omega⟩
  refine (H1.out w2 (Hv.out.ext HB.out)).mono ?_
  rintro e w3 ⟨rfl, hb3⟩
  replace HB := Lib.hid (HB.out.trans (hb3.mono HB.out.size))
  replace HK1 := Lib.hid (HK1.out.ext hb3)
  replace HK2 := Lib.hid (HK2.out.ext hb3)
  clear hg1 hg2 hk1 hk2 hb1 hb2 hb3 hj1 q0 q1 H1
  go_wp2_with fail
  obtain ⟨B5, hB5⟩ : ∃ B5, w3.heap.size = B5 := ⟨_, rfl⟩
  refine wp_region_gt (F := fun i => B5 ≤ i ∨ i = g4) [(0, true), (1, true), (2, true), (3, true), (5, true), (6, true), (7, true), (4, false), (8, false), (9, true), (10, false), (11, true)] (by kernel_rfl) (by kernel_rfl) (by kernel_rfl) (by kernel_rfl) (fun _ _ _ _ _ h => h) ?_
  replace HB : Hid (Below w.heap.size w w3.drew) := HB.out.drew
  replace HK1 : Hid (Blk w3.drew g2 PS (psv N (.slice a n c))) := HK1.out
  replace HK2 : Hid (Blk w3.drew g4 PS (psv 0 pnil)) := HK2.out
  replace hB5 : w3.drew.heap.size = B5 := hB5
  generalize w3.drew = w5 at *
  have HBs : Hid (w.heap.size ≤ B5) := by rw [← hB5]; exact HB.out.size
  have hF : ¬ (B5 ≤ g2 ∨ g2 = g4) := by have := HK1.out.lt; have := Hg.out.2; omega
  have r0 : ∀ w', Turn (fun i => B5 ≤ i ∨ i = g4) w5 w' → w'.cell? ⟨g2, 0, none⟩ = some (.int .u64 (N : Nat)) := fun w' ht => (HK1.out.turn ht hF).ps0
  have r1 : ∀ w', Turn (fun i => B5 ≤ i ∨ i = g4) w5 w' → w'.cell? ⟨g2, 1, none⟩ = some (.slice a n c) := fun w' ht => (HK1.out.turn ht hF).ps1
  iterate 7 (refine wpGt_read (o := ⟨_, _, _, _, _, _⟩) (v := ?_) rfl (by rfl) ?_ ?_; rotate_left; (intro w' hw'; go_simp; with_reducible rfl); simp only [Act.put, List.setIfInBounds_toArray, List.set_cons_zero, List.set_cons_succ])
  refine wpGt_call (o := ⟨_, _, _, _, _, _⟩) rfl (by rfl) (fun K hK => ?_)
  go_simp
  refine (HC.out w5 (Hv.out.below HB.out (Nat.le_refl _))).mono ?_
  rintro e w6 ⟨u, rfl, ho6, hb6⟩
  rw [hB5] at ho6 hb6
  refine hK _ _ ((turn_from hb6).mono (fun i hi _ => .inl hi)) ?_
  clear hK K r0 r1 hF
  refine wpGt_call (o := ⟨_, _, _, _, _, _⟩) rfl (by rfl) (fun K hK => ?_)
  go_simp
  refine (HD.out u B5 w6 ho6).mono ?_
  rintro e w7 ⟨g7, c7, rfl, hg7, hu7, hb7⟩
  refine hK _ _ ((turn_from hb7).mono (fun i hi _ => .inl hi)) ?_
  clear hK K
  have hb57 := hb6.trans hb7
  have hg4 : g4 < B5 := by rw [← hB5]; exact HK2.out.lt
  have HG := Lib.hid (And.intro hg7 hg4)
  have HK7 := Lib.hid (HK2.out.below hb57 hg4)
  have HB7 := Lib.hid (HB.out.trans (hb57.mono HBs.out))
  have HT : Hid (Turn (fun i => i = g4) w7 ((w7.setCell ⟨g4, 0, none⟩ (.int .u64 (N : Nat))).setCell ⟨g4, 1, none⟩ (.slice (some ⟨g7, 0, none⟩) (pdel l k).length c7))) := ((Turn.refl (fun i => i = g4) w7).setCell (p := ⟨g4, 0, none⟩) _ (fun _ => rfl)).setCell (p := ⟨g4, 1, none⟩) _ (fun _ => rfl)
  have HX : Hid (EV pinE ((w7.setCell ⟨g4, 0, none⟩ (.int .u64 (N : Nat))).setCell ⟨g4, 1, none⟩ (.slice (some ⟨g7, 0, none⟩) (pdel l k).length c7)) (.slice (some ⟨g7, 0, none⟩) (pdel l k).length c7) (pdel l k)) := by
    obtain ⟨a8, c8, he, h1, h2, h3⟩ := hu7
    cases he
    exact ⟨_, _, rfl, h1.turnP HT.out (by omega), h2, h3⟩
  generalize (pdel l k).length = n7 at *
  clear hb57 hg4 hb6 hb7 ho6 hg7 hu7 HK1 HK2 HC HD Hv
  have c0 := HK7.out.ps0
  have c1 := HK7.out.ps1
  have f0 := HK7.out.fz 0
  have f1 := HK7.out.fz 1
  iterate 1 (refine wpGt_read (o := ⟨_, _, _, _, _, _⟩) (v := ?_) rfl (by rfl) ?_ ?_; rotate_left; (intro w' hw'; go_simp; with_reducible rfl); simp only [Act.put, List.setIfInBounds_toArray, List.set_cons_zero, List.set_cons_succ])
  refine wpGt_call (o := ⟨_, _, _, _, _, _⟩) rfl (by rfl) (fun K hK => ?_)
  go_simp
  refine hK _ _ (HT.out.mono (fun i hi _ => .inr hi)) ?_
  clear hK K c0 c1 f0 f1
  (refine wpGt_read (o := ⟨_, _, _, _, _, _⟩) (v := ?_) rfl (by rfl) ?_ ?_; rotate_left; (intro w' hw'; go_simp; with_reducible rfl); simp only [Act.put, List.setIfInBounds_toArray, List.set_cons_zero, List.set_cons_succ])
  refine wpGt_done ?_
  go_wp2
  refine bodyPost_ret (v := .tuple #[.agg (psv N (.slice (some ⟨g7, 0, none⟩) n7 c7)), .nilIface]) ?_ rfl ?_
  · exact results_agg2 agg_PS rfl _ _ g4 _ _ (by rfl) (by rfl) HK7.out.ps_set rfl
  · exact ⟨_, rfl, HX.out, (fun x hx => by cases hx; exact Nat.le_trans HBs.out HG.out.1), (HB7.out.setCell Hg.out.1 _).setCell Hg.out.1 _⟩
theorem close_at (v : Value) (l : List Pn) (N d k : Nat) (w : World) (hv : EV pinE w v l) (hE : fiE l N d = 0) (hA : fiA l N d = (k : Int)) (hk : k < l.length) (h8 : l.length ≤ 8) :
    Calls Tryd.prog 10 #[.agg (psv N v), .int .u64 (d : Nat)] w fun e w' => ∃ u, e = .returned (.tuple #[.agg (psv N u), errC 0]) ∧ EV pinE w' u (pdel l k) ∧ Below w.heap.size w w' := by
  refine (close_new v l N d k w hv hE hA hk h8).mono ?_
  rintro e w' ⟨u, h1, h2, _, h3⟩
  exact ⟨u, h1, h2, h3⟩
theorem close_any (v : Value) (l : List Pn) (N d : Nat) (w : World) (hv : EV pinE w v l) :
    Calls Tryd.prog 10 #[.agg (psv N v), .int .u64 (d : Nat)] w fun e w' => ∃ u, e = .returned (.tuple #[.agg (psv (clN l N d) u), errC (fiE l N d)]) ∧ EV pinE w' u (clL l N d) ∧ Below w.heap.size w w' := by
  rcases fiE_way l N d with hE | ⟨hE, hmy, k, hk, hp, _⟩
  · refine (close_not v l N d w hv hE).mono ?_
    rintro e2 w' ⟨rfl, hb⟩
    exact ⟨pnil, by unfold clN; rw [if_neg hE], by unfold clL; rw [if_neg hE]; exact EV.none _, hb⟩
  · refine (close_at v l N d k w hv hE (fiA_at hmy hp) hk ((pmayB_iff l N).1 hmy).few).mono ?_
    rintro e2 w' ⟨u, rfl, hu, hb⟩
    exact ⟨u, by unfold clN; rw [hE, if_pos rfl], by unfold clL; rw [hE, if_pos rfl, hp]; exact hu, hb⟩
end Go.Proofs.YtdgcghknfhhkiaaDoor
