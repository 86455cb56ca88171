/-
  The document's Close.
-/
import Derived.Test.YtdgcghknfhhkiaaDoorRefPGet
import Derived.Test.YtdgcghknfhhkiaaDoorRefPOpen
namespace Go.Proofs.YtdgcghknfhhkiaaDoor
open Go Go.RowKit

set_option maxRecDepth 100000 in
theorem refClose_not (v : Value) (l : List Pn) (N d : Nat) (w : World) (hv : PV w v l) (hE : fiE l N d ≠ 0) :
    Calls Tryd.prog 11 #[.agg (psv N v), .int .u64 (d : Nat)] w fun e w' => e = .returned (.tuple #[.agg (psv 0 pnil), .int .i64 (fiE l N d)]) ∧ Below w.heap.size w w' := by
  have H1 := Lib.hid (fun (w1 : World) (h : PV w1 v l) => refGet_any v l N d w1 h)
  have Hv := Lib.hid hv
  obtain ⟨a, c, rfl, _⟩ := hv
  generalize l.length = n at *
  generalize gtP l N d = G at *
  generalize fiE l N d = E at *
  have d1 : (E != 0) = true := by rw [bne_iff_ne]; exact hE
  clear hE
  go_enter Tryd.func11, Tryd.ntmps11
  go_wp2_with (first
    | (refine wpList_box_arr rfl RPS (.tmp 0) rfl (psv N (.slice a n c)) (by rfl) ?_; intro g2 w1 hg1 hk1 hb1)
    | (refine wpList_alloc_arr rfl RPS rfl arrz_RPS ?_; intro g4 w2 hg2 hk2 hb2; have hj1 := hk1.ext hb2; have q0 := hj1.ps0; have q1 := hj1.ps1))
  have HB := Lib.hid (hb1.trans (hb2.mono hb1.size))
  have HK2 := Lib.hid hk2
  have Hg : Hid (w.heap.size ≤ g4) := by show _ ≤ _; have := hb1.size; omega
  refine (H1.out w2 (Hv.out.ext HB.out)).mono ?_
  rintro e w3 ⟨rfl, hb3⟩
  replace HB := Lib.hid (HB.out.trans (hb3.mono HB.out.size))
  replace HK2 := Lib.hid (HK2.out.ext hb3)
  clear hg1 hg2 hk1 hk2 hb1 hb2 hb3 hj1 q0 q1 H1 Hv
  go_wp2_with (first
    | (refine wpList_alloc_arr rfl RPT rfl arrz_RPT ?_; intro g6 w6 hg6 hk6 hb6)
    | (refine wpList_store_agg rfl RPT (.tmp 6) (.tmp 14) rfl g6 (pv G) _ RPT (by rfl) (by rfl) agg_RPT hk6 (pv_size _) (pv_size _) (pv_one _) ?_; intro w8 hk8 ht8 hs8; have b8 := hb6.trans (ht8.below hb6.size (fun i hi => by subst hi; exact hg6)); have hj8 := HK2.out.ext b8; have c0 := hj8.ps0; have c1 := hj8.ps1; have f0 := hj8.fz 0; have f1 := hj8.fz 1))
  refine bodyPost_ret (v := .tuple #[.agg (psv 0 pnil), .int .i64 E]) ?_ rfl ?_
  · exact results_agg2 agg_RPS rfl _ _ g4 _ _ (by rfl) (by rfl) hj8.ps_set rfl
  · exact ⟨rfl, ((HB.out.trans (b8.mono HB.out.size)).setCell Hg.out _).setCell Hg.out _⟩
set_option maxRecDepth 100000 in
set_option maxHeartbeats 1000000 in
theorem refClose_at (v : Value) (l : List Pn) (N d k0 : Nat) (w : World) (hv : PV w v l) (hE : fiE l N d = 0) (h8 : l.length ≤ 8) (hb0 : pbut d l = pdel l k0) :
    Calls Tryd.prog 11 #[.agg (psv N v), .int .u64 (d : Nat)] w fun e w' => ∃ u, e = .returned (.tuple #[.agg (psv N u), .int .i64 0]) ∧ EV pinE w' u (pdel l k0) ∧ Below w.heap.size w w' := by
  have H1 := Lib.hid (fun (w1 : World) (h : PV w1 v l) => refGet_any v l N d w1 h)
  have Hv := Lib.hid hv
  rw [hE] at H1
  rw [← hb0]
  obtain ⟨a, c, rfl, hs, _⟩ := hv
  have Hs := Lib.hid hs
  obtain ⟨n, hn⟩ : ∃ n, l.length = n := ⟨_, rfl⟩
  have Hn := Lib.hid hn
  rw [hn] at H1 Hv h8 ⊢
  generalize gtP l N d = G at *
  clear hE hs hn hb0
  go_enter Tryd.func11, Tryd.ntmps11
  go_wp2_with (first
    | (refine wpList_box_arr rfl RPS (.tmp 0) rfl (psv N (.slice a n c)) (by rfl) ?_; intro g2 w1 hg1 hk1 hb1)
    | (refine wpList_alloc_arr rfl RPS rfl arrz_RPS ?_; intro g4 w2 hg2 hk2 hb2; have hj1 := hk1.ext hb2; have q0 := hj1.ps0; have q1 := hj1.ps1))
  have HB := Lib.hid (hb1.trans (hb2.mono hb1.size))
  have HK1 := Lib.hid hj1
  have HK2 := Lib.hid hk2
  have Hg : Hid (w.heap.size ≤ g4) := by show _ ≤ _; have := hb1.size; omega
  refine (H1.out w2 (Hv.out.ext HB.out)).mono ?_
  rintro e w3 ⟨rfl, hb3⟩
  replace HB := Lib.hid (HB.out.trans (hb3.mono HB.out.size))
  replace HK1 := Lib.hid (HK1.out.ext hb3)
  replace HK2 := Lib.hid (HK2.out.ext hb3)
  clear hg1 hg2 hk1 hk2 hb1 hb2 hb3 hj1 q0 q1 H1 Hv
  go_wp2_with (first
    | (refine wpList_alloc_arr rfl RPT rfl arrz_RPT ?_; intro g6 w6 hg6 hk6 hb6)
    | (refine wpList_store_agg rfl RPT (.tmp 6) (.tmp 14) rfl g6 (pv G) _ RPT (by rfl) (by rfl) agg_RPT hk6 (pv_size _) (pv_size _) (pv_one _) ?_; intro w8 hk8 ht8 hs8))
  have b8 : Ext w3 w8 := hb6.trans (ht8.below hb6.size (fun i hi => by subst hi; exact hg6))
  replace HB := Lib.hid (HB.out.trans (Below.mono b8 HB.out.size))
  replace HK1 := Lib.hid (HK1.out.ext b8)
  replace HK2 := Lib.hid (HK2.out.ext b8)
  clear hg6 hk6 hb6 hk8 ht8 hs8 b8
  obtain ⟨B8, hB8⟩ : ∃ B8, w8.heap.size = B8 := ⟨_, rfl⟩
  have Hgg : Hid (g2 < B8 ∧ g4 < B8 ∧ w.heap.size ≤ B8) := ⟨by rw [← hB8]; exact HK1.out.lt, by rw [← hB8]; exact HK2.out.lt, by rw [← hB8]; exact HB.out.size⟩
  go_loopw [8, 9] (fun ov i wr => ∃ (k : Nat) (u : Value), u = ov ∧ i = .int .i64 k ∧ k ≤ n ∧ Hid (wr.ownsRow B8 RPT 18 u (pbut d (l.take k)).length (pinE.row (pbut d (l.take k)))) ∧ Hid (Below B8 w8 wr)) (fun _ i _ => n - (intOf i).toNat)
  case atStart => exact ⟨0, pnil, rfl, rfl, by omega, World.ownsRow_nil _ _ _ _, by rw [← hB8]; exact Below.refl _ _⟩
  case round =>
    obtain ⟨k, u, rfl, rfl, hk, hO, hB⟩ := hrel
    have z0 := (HK1.out.below hB.out Hgg.out.1).ps0
    have z1 := (HK1.out.below hB.out Hgg.out.1).ps1
    by_cases hlt : k < n
    · have hkl : k < l.length := by rw [Hn.out]; exact hlt
      obtain ⟨g, o, rfl, hcell⟩ := (Hs.out.below (HB.out.trans (hB.out.mono Hgg.out.2.2)) (Nat.le_refl _)).pin (by rw [Hn.out]; omega)
      have hc := hcell k hkl
      have q2 := hc.id
      have htk := pbut_take d l k hkl
      have hlen : (pbut d (l.take k)).length ≤ 8 := by
        have h1 : (pbut d (l.take k)).length ≤ (l.take k).length := List.length_filter_le _ _
        rw [List.length_take] at h1; omega
      have i1 : (k : Int) < (n : Int) := by omega
      generalize pn l k = y at *
      have Hc := Lib.hid hc
      clear hcell hc
      by_cases h1 : y.id = d
      · have d1 : ((y.id : Int) != (d : Int)) = false := by rw [h1]; simp
        rw [if_pos h1] at htk
        have hO2 : Hid (wr.ownsRow B8 RPT 18 u (pbut d (l.take (k + 1))).length (pinE.row (pbut d (l.take (k + 1))))) := by rw [htk]; exact hO.out
        clear hO htk h1 hlen
        go_wp2
        go_roundw
        case rel => exact ⟨k + 1, u, rfl, by go_num, by omega, hO2, hB⟩
        case measure => simp [intOf]; omega
      · have d1 : ((y.id : Int) != (d : Int)) = true := by rw [bne_iff_ne]; omega
        rw [if_neg h1] at htk
        clear h1
        have hs8 : B8 ≤ wr.heap.size := by rw [← hB8]; exact (show Below w8.heap.size w8 wr by rw [hB8]; exact hB.out).size
        have hal := plit wr RPT y
        have hba : Below B8 w8 (wr.alloc (.cells (pv y) RPT)) := hB.out.alloc hs8 _
        obtain ⟨v7, w7, hrun, hb7, ho7⟩ := papp_own SRPT SRPT RPT Tryd.underlying23 pinfoR wr.heap.size y (hO.out.alloc _) (Nat.le_trans hs8 (by simp)) hal (by omega)
        rw [← htk] at ho7
        have HO := Lib.hid ho7
        have HB7 := Lib.hid (hba.trans hb7)
        clear hO htk hlen hal hba hb7 ho7 hs8
        go_wp2_with (first
          | (refine wpList_load_agg rfl RPT (.tmp 39) rfl g (o + k * 18) (pv y) (by rfl) agg_RPT Hc.out (pv_size _) ?_)
          | (refine wpList_slice_rpin rfl (.tmp 40) rfl y (by rfl) ?_)
          | (at_builtin; refine Lib.wpList_append_run _ rfl (.tmp 35) (.tmp 41) _ _ rfl _ _ (by rfl) (by rfl) _ _ hrun ?_))
        go_roundw
        case rel => exact ⟨k + 1, v7, rfl, by go_num, by omega, HO, HB7⟩
        case measure => simp [intOf]; omega
    · obtain rfl : k = n := by omega
      have ho := hO.out
      rw [List.take_of_length_le (by rw [Hn.out]; exact Nat.le_refl _)] at ho
      obtain ⟨a7, c7, rfl, _⟩ := own_pin ho
      obtain ⟨v7, hv7⟩ : ∃ v7, Value.slice a7 (pbut d l).length c7 = v7 := ⟨_, rfl⟩
      rw [hv7] at ho
      have HX : Hid (EV pinE ((wr.setCell ⟨g4, 0, none⟩ (.int .u64 (N : Nat))).setCell ⟨g4, 1, none⟩ v7) v7 (pbut d l)) := own_pin (ownsRow_setCell_below (ownsRow_setCell_below ho (a := ⟨g4, 0, none⟩) Hgg.out.2.1 _) (a := ⟨g4, 1, none⟩) Hgg.out.2.1 _)
      have HK9 := Lib.hid (HK2.out.below hB.out Hgg.out.2.1)
      have HBB := Lib.hid (HB.out.trans (hB.out.mono Hgg.out.2.2))
      have c0 := HK9.out.ps0
      have c1 := HK9.out.ps1
      have f0 := HK9.out.fz 0
      have f1 := HK9.out.fz 1
      subst hv7
      generalize (pbut d l).length = n7 at *
      clear hO ho hB
      go_wp2
      refine bodyPost_ret (v := .tuple #[.agg (psv N (.slice a7 n7 c7)), .int .i64 0]) ?_ rfl ?_
      · exact results_agg2 agg_RPS rfl _ _ g4 _ _ (by rfl) (by rfl) HK9.out.ps_set rfl
      · exact ⟨_, rfl, HX.out, (HBB.out.setCell Hg.out _).setCell Hg.out _⟩
theorem refClose_any (v : Value) (l : List Pn) (N d : Nat) (w : World) (hv : PV w v l) :
    Calls Tryd.prog 11 #[.agg (psv N v), .int .u64 (d : Nat)] w fun e w' => ∃ u, e = .returned (.tuple #[.agg (psv (clN l N d) u), .int .i64 (fiE l N d)]) ∧ EV pinE w' u (clL l N d) ∧ Below w.heap.size w w' := by
  rcases fiE_way l N d with hE | ⟨hE, hmy, k, hk, hp, hid⟩
  · refine (refClose_not v l N d w hv hE).mono ?_
    rintro e2 w' ⟨rfl, hb⟩
    exact ⟨pnil, by unfold clN; rw [if_neg hE], by unfold clL; rw [if_neg hE]; exact EV.none _, hb⟩
  · have hm := (pmayB_iff l N).1 hmy
    refine (refClose_at v l N d k w hv hE hm.few (by rw [← hid]; exact hm.asc.but k hk)).mono ?_
    rintro e2 w' ⟨u, rfl, hu, hb⟩
    exact ⟨u, by unfold clN; rw [hE, if_pos rfl], by unfold clL; rw [hE, if_pos rfl, hp]; exact hu, hb⟩
end Go.Proofs.YtdgcghknfhhkiaaDoor
