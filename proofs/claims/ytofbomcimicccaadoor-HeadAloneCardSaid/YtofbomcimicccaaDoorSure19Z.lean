/-
  The law's sure (mkhead19.py).
-/
import Derived.Test.YtofbomcimicccaaDoorHdLawZ
namespace Go.Proofs.YtofbomcimicccaaDoor
open Go Go.RowKit

def H7 : Hd := ⟨3, 7, 0, 5, 2⟩
theorem build_H7 (w : World) : (Instr.build HT #[(0, .int .u64 3), (1, .int .u64 7), (3, .int .i64 5), (4, .int .i64 2)]).run Tryd.prog w = .ok (.agg (hv H7)) w := by kernel_rfl
set_option maxRecDepth 100000 in
set_option maxHeartbeats 2000000 in
theorem hsure_any (w : World) (hg : Hg w) (hT : WorthIn w) (hM : MostIn w) :
    Calls Tryd.prog 6 #[] w fun e w' => e = .returned (.bool true) ∧ Below w.heap.size w w' := by
  have HG := Lib.hid hg
  have HW := Lib.hid hT
  have HM := Lib.hid hM
  have HB := Lib.hid (Below.refl w.heap.size w)
  have m : HMay H7 := by unfold HMay H7 B62; decide
  have C1 := Lib.hid (fun w hM hT => enc_yes H7 m w hM hT)
  have C2 := Lib.hid (fun v w h hT hM => dec_ba v (hpage H7) w h hT hM)
  rw [hdec_page m] at C2
  have C3 := Lib.hid (fun u v w h h' hT hM => pick_ba u v (List.replicate 512 0) (hpage H7) w h h' hT hM)
  rw [hpick_right m (by decide) hdec_zero] at C3
  have C4 := Lib.hid (fun u v w h h' hT hM => pick_ba u v (hpage H7) [] w h h' hT hM)
  rw [hpick_wrong0 m (by decide) hdec_nil] at C4
  have CN := Lib.hid (fun w hg => num_any (errS 16) 16 w (errS_is 16) hg)
  have CS := Lib.hid (fun w => slot_any 3 w (by decide))
  have HL := Lib.hid (And.intro (hpage_len m) (hpage_b8 m))
  have hB7 : ∀ w, _ := build_H7
  have HB7 := Lib.hid hB7
  dsimp only at C2 C3 C4
  rw [errS_0] at C2 C3
  rw [errS_16] at C4 CN
  obtain ⟨Z, hZ⟩ : ∃ Z : List Nat, List.replicate 512 0 = Z := ⟨_, rfl⟩
  rw [hZ] at C3
  have HZ := Lib.hid hZ
  generalize hpage H7 = L at *
  generalize H7 = H at *
  clear hg hT hM m hB7 hZ
  go_enter Tryd.func6, Tryd.ntmps6
  go_wp2_with (first
    | (refine wpList_build rfl HT _ rfl _ (by rfl) (hv H) (HB7.out _) ?_)
    | (show wpList _ _ _ (⟨some 1, _, _, _, _, _⟩ :: _) _ _; refine wpList_alloc_arr rfl HT rfl arrz_HT ?_; intro g1 wa1 hg1 hk1 hb1)
    | (refine wpList_store_agg rfl HT (.tmp 1) (.tmp 10) rfl g1 (hv H) _ HT (by rfl) (by rfl) agg_HT hk1 (hv_size _) (hv_size _) (hv_one _) ?_; intro wv1 hj1 ht1 hs1; have bb1 : Ext w wv1 := hb1.trans (ht1.below hb1.size (fun i hi => by subst hi; exact hg1)); replace HB := Lib.hid (HB.out.trans (Below.mono bb1 HB.out.size)); replace HG := Lib.hid (HG.out.below bb1); replace HW := Lib.hid (HW.out.below bb1); replace HM := Lib.hid (HM.out.below bb1); have K1 := Lib.hid hj1; have Q1 := Lib.hid hg1; clear hg1 hk1 hb1 hj1 ht1 hs1 bb1)
    | (refine wpList_load_agg rfl HT (.tmp 1) rfl g1 0 (hv H) (by rfl) agg_HT K1.out.at (hv_size _) ?_))
  refine (C1.out wv1 HM.out HW.out).mono ?_
  rintro e u1 ⟨g, rfl, hgz, hr, hb⟩
  replace HB := Lib.hid (HB.out.trans (Below.mono hb HB.out.size))
  replace HG := Lib.hid (HG.out.below hb)
  replace HW := Lib.hid (HW.out.below hb)
  replace HM := Lib.hid (HM.out.below hb)
  replace K1 := Lib.hid (K1.out.ext hb)
  have EA := Lib.hid (hr.ba HL.out.1 HL.out.2)
  clear hb hr hgz
  go_wp2_with fail
  refine (C2.out _ u1 EA.out HW.out HM.out).mono ?_
  rintro e u2 ⟨rfl, hb⟩
  replace HB := Lib.hid (HB.out.trans (Below.mono hb HB.out.size))
  replace HG := Lib.hid (HG.out.below hb)
  replace HW := Lib.hid (HW.out.below hb)
  replace HM := Lib.hid (HM.out.below hb)
  replace K1 := Lib.hid (K1.out.ext hb)
  replace EA := Lib.hid (EA.out.ext hb)
  clear hb
  go_wp2_with (first
    | (show wpList _ _ _ (⟨some 4, _, _, _, _, _⟩ :: _) _ _; refine wpList_alloc_arr rfl HT rfl arrz_HT ?_; intro g4 wa4 hg4 hk4 hb4)
    | (refine wpList_store_agg rfl HT (.tmp 4) (.tmp 19) rfl g4 (hv H) _ HT (by rfl) (by rfl) agg_HT hk4 (hv_size _) (hv_size _) (hv_one _) ?_; intro wv4 hj4 ht4 hs4; have bb4 : Ext u2 wv4 := hb4.trans (ht4.below hb4.size (fun i hi => by subst hi; exact hg4)); replace HB := Lib.hid (HB.out.trans (Below.mono bb4 HB.out.size)); replace HG := Lib.hid (HG.out.below bb4); replace HW := Lib.hid (HW.out.below bb4); replace HM := Lib.hid (HM.out.below bb4); replace K1 := Lib.hid (K1.out.ext bb4); replace EA := Lib.hid (EA.out.ext bb4); have K4 := Lib.hid hj4; have Q4 := Lib.hid hg4; clear hg4 hk4 hb4 hj4 ht4 hs4 bb4)
    | (at_make; refine wpList_make_bytes rfl _ _ 25 rfl 5 Tryd.underlying25 infoByte _ _ _ _ 512 rfl rfl rfl rfl (by omega) ?_; intro wz hrz hbz; replace HB := Lib.hid (HB.out.trans (Below.mono hbz HB.out.size)); replace HG := Lib.hid (HG.out.below hbz); replace HW := Lib.hid (HW.out.below hbz); replace HM := Lib.hid (HM.out.below hbz); replace K1 := Lib.hid (K1.out.ext hbz); replace EA := Lib.hid (EA.out.ext hbz); replace K4 := Lib.hid (K4.out.ext hbz); have EZ := Lib.hid (Row.ba hrz.out (by rw [List.length_replicate]) (B8.zeros 512)); rw [HZ.out] at EZ; clear hrz hbz))
  refine (C3.out _ _ wz EZ.out EA.out HW.out HM.out).mono ?_
  rintro e u3 ⟨rfl, hb⟩
  replace HB := Lib.hid (HB.out.trans (Below.mono hb HB.out.size))
  replace HG := Lib.hid (HG.out.below hb)
  replace HW := Lib.hid (HW.out.below hb)
  replace HM := Lib.hid (HM.out.below hb)
  replace K1 := Lib.hid (K1.out.ext hb)
  replace EA := Lib.hid (EA.out.ext hb)
  replace K4 := Lib.hid (K4.out.ext hb)
  replace EZ := Lib.hid (EZ.out.ext hb)
  clear hb
  go_wp2_with (first
    | (show wpList _ _ _ (⟨some 6, _, _, _, _, _⟩ :: _) _ _; refine wpList_alloc_arr rfl HT rfl arrz_HT ?_; intro g6 wa6 hg6 hk6 hb6)
    | (refine wpList_store_agg rfl HT (.tmp 6) (.tmp 25) rfl g6 (hv H) _ HT (by rfl) (by rfl) agg_HT hk6 (hv_size _) (hv_size _) (hv_one _) ?_; intro wv6 hj6 ht6 hs6; have bb6 : Ext u3 wv6 := hb6.trans (ht6.below hb6.size (fun i hi => by subst hi; exact hg6)); replace HB := Lib.hid (HB.out.trans (Below.mono bb6 HB.out.size)); replace HG := Lib.hid (HG.out.below bb6); replace HW := Lib.hid (HW.out.below bb6); replace HM := Lib.hid (HM.out.below bb6); replace K1 := Lib.hid (K1.out.ext bb6); replace EA := Lib.hid (EA.out.ext bb6); replace K4 := Lib.hid (K4.out.ext bb6); have K6 := Lib.hid hj6; have Q6 := Lib.hid hg6; clear hg6 hk6 hb6 hj6 ht6 hs6 bb6))
  refine (C4.out _ _ wv6 EA.out (BA.none _) HW.out HM.out).mono ?_
  rintro e u4 ⟨rfl, hb⟩
  replace HB := Lib.hid (HB.out.trans (Below.mono hb HB.out.size))
  replace HG := Lib.hid (HG.out.below hb)
  replace HW := Lib.hid (HW.out.below hb)
  replace HM := Lib.hid (HM.out.below hb)
  replace K1 := Lib.hid (K1.out.ext hb)
  replace EA := Lib.hid (EA.out.ext hb)
  replace K4 := Lib.hid (K4.out.ext hb)
  replace K6 := Lib.hid (K6.out.ext hb)
  clear hb
  go_wp2_with (first
    | (show wpList _ _ _ (⟨some 8, _, _, _, _, _⟩ :: _) _ _; refine wpList_alloc_arr rfl HT rfl arrz_HT ?_; intro g8 wa8 hg8 hk8 hb8)
    | (refine wpList_store_agg rfl HT (.tmp 8) (.tmp 30) rfl g8 (hv hd0) _ HT (by rfl) (by rfl) agg_HT hk8 (hv_size _) (hv_size _) (hv_one _) ?_; intro wv8 hj8 ht8 hs8; have bb8 : Ext u4 wv8 := hb8.trans (ht8.below hb8.size (fun i hi => by subst hi; exact hg8)); replace HB := Lib.hid (HB.out.trans (Below.mono bb8 HB.out.size)); replace HG := Lib.hid (HG.out.below bb8); replace HW := Lib.hid (HW.out.below bb8); replace HM := Lib.hid (HM.out.below bb8); replace K1 := Lib.hid (K1.out.ext bb8); replace EA := Lib.hid (EA.out.ext bb8); replace K4 := Lib.hid (K4.out.ext bb8); replace K6 := Lib.hid (K6.out.ext bb8); have K8 := Lib.hid hj8; have Q8 := Lib.hid hg8; clear hg8 hk8 hb8 hj8 ht8 hs8 bb8)
    | (refine wpList_load_agg_when (by rfl) HT (.tmp 1) rfl g1 0 (hv H) (by rfl) agg_HT K1.out.at (hv_size _) ?_)
    | (refine wpList_load_agg_when (by rfl) HT (.tmp 4) rfl g4 0 (hv H) (by rfl) agg_HT K4.out.at (hv_size _) ?_)
    | (refine wpList_load_agg_when (by rfl) HT (.tmp 6) rfl g6 0 (hv H) (by rfl) agg_HT K6.out.at (hv_size _) ?_)
    | (refine wpList_eql_h_when (by rfl) (.tmp 48) (.tmp 49) _ rfl H H (by rfl) (by rfl) rfl ?_)
    | (refine wpList_eql_h_when (by rfl) (.tmp 53) (.tmp 54) _ rfl H H (by rfl) (by rfl) rfl ?_))
  refine (CN.out wv8 HG.out).mono ?_
  rintro e u5 ⟨rfl, hb⟩
  replace HB := Lib.hid (HB.out.trans (Below.mono hb HB.out.size))
  replace HG := Lib.hid (HG.out.below hb)
  replace HW := Lib.hid (HW.out.below hb)
  replace HM := Lib.hid (HM.out.below hb)
  replace K1 := Lib.hid (K1.out.ext hb)
  replace EA := Lib.hid (EA.out.ext hb)
  replace K4 := Lib.hid (K4.out.ext hb)
  replace K6 := Lib.hid (K6.out.ext hb)
  replace K8 := Lib.hid (K8.out.ext hb)
  clear hb
  go_wp2_with fail
  refine (CS.out u5).mono ?_
  rintro e u ⟨rfl, rfl⟩
  go_wp2
  go_ret
  exact ⟨rfl, HB.out⟩
end Go.Proofs.YtofbomcimicccaaDoor
