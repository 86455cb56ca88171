/-
  HeadForms: the law's walk (mkhead19.py).
-/
import Derived.Test.YtofbomcimicccaaDoorSure19Z
namespace Go.Proofs.YtofbomcimicccaaDoor
open Go Go.RowKit

set_option maxRecDepth 100000 in
set_option maxHeartbeats 4000000 in
theorem forms_any (h : Hd) (hf : h.Fit) (a1 : Option Addr) (l1 : List Nat) (n1 c1 : Nat) (a2 : Option Addr) (l2 : List Nat) (n2 c2 : Nat) (w : World) (hn1 : l1.length = n1) (hn2 : l2.length = n2) (h81 : B8 l1) (h82 : B8 l2) (hs1 : Src w a1 l1) (hs2 : Src w a2 l2)
    (hlc1 : n1 ≤ c1) (hlc2 : n2 ≤ c2) (hr1 : c1 ≤ 140737488355328) (hr2 : c2 ≤ 140737488355328) (hg : Hg w) (hT : WorthIn w) (hM : MostIn w) :
    Calls Tryd.prog 3 #[.agg (hv h), .slice a1 n1 c1, .slice a2 n2 c2] w fun e w' => e = .returned (.bool true) ∧ Below w.heap.size w w' := by
  have HG := Lib.hid hg
  have HW := Lib.hid hT
  have HM := Lib.hid hM
  have HB := Lib.hid (Below.refl w.heap.size w)
  have EA : Hid (BA w (.slice a1 n1 c1) l1) := ⟨⟨a1, c1, by rw [hn1], hs1, by rw [hn1]; exact hlc1, hr1⟩, h81⟩
  have EB : Hid (BA w (.slice a2 n2 c2) l2) := ⟨⟨a2, c2, by rw [hn2], hs2, by rw [hn2]; exact hlc2, hr2⟩, h82⟩
  have CSu := Lib.hid (fun w hg hT hM => hsure_any w hg hT hM)
  have n19 : n1 ≤ 9223372036854775807 := by omega
  have n29 : n2 ≤ 9223372036854775807 := by omega
  have HF := Lib.hid hf
  clear hg hT hM hs1 hs2 h81 h82 hn1 hn2 hlc1 hlc2 hr1 hr2 hf
  go_enter Tryd.func3, Tryd.ntmps3
  by_cases h1 : 600 < n1
  · have d1 : decide ((600 : Int) < (n1 : Int)) = true := decide_eq_true (by omega)
    go_wp2_with (first
      | (refine wpList_box_arr rfl RHT (.tmp 0) rfl (hv h) (by rfl) ?_; intro g3 w1 hg3 hk3 hb3; replace HB := Lib.hid (HB.out.trans (Below.mono hb3 HB.out.size)); replace HG := Lib.hid (HG.out.below hb3); replace HW := Lib.hid (HW.out.below hb3); replace HM := Lib.hid (HM.out.below hb3); replace EA := Lib.hid (EA.out.ext hb3); replace EB := Lib.hid (EB.out.ext hb3); have K3 := Lib.hid hk3; clear hg3 hk3 hb3))
    refine (CSu.out w1 HG.out HW.out HM.out).mono ?_
    rintro e u1 ⟨rfl, hb⟩
    replace HB := Lib.hid (HB.out.trans (Below.mono hb HB.out.size))
    replace HG := Lib.hid (HG.out.below hb)
    replace HW := Lib.hid (HW.out.below hb)
    replace HM := Lib.hid (HM.out.below hb)
    replace EA := Lib.hid (EA.out.ext hb)
    replace EB := Lib.hid (EB.out.ext hb)
    replace K3 := Lib.hid (K3.out.ext hb)
    clear hb
    go_wp2
    go_ret
    exact ⟨rfl, HB.out⟩
  · have d1 : decide ((600 : Int) < (n1 : Int)) = false := decide_eq_false (by omega)
    by_cases h2 : 600 < n2
    · have d2 : decide ((600 : Int) < (n2 : Int)) = true := decide_eq_true (by omega)
      go_wp2_with (first
        | (refine wpList_box_arr rfl RHT (.tmp 0) rfl (hv h) (by rfl) ?_; intro g3 w1 hg3 hk3 hb3; replace HB := Lib.hid (HB.out.trans (Below.mono hb3 HB.out.size)); replace HG := Lib.hid (HG.out.below hb3); replace HW := Lib.hid (HW.out.below hb3); replace HM := Lib.hid (HM.out.below hb3); replace EA := Lib.hid (EA.out.ext hb3); replace EB := Lib.hid (EB.out.ext hb3); have K3 := Lib.hid hk3; clear hg3 hk3 hb3))
      refine (CSu.out w1 HG.out HW.out HM.out).mono ?_
      rintro e u1 ⟨rfl, hb⟩
      replace HB := Lib.hid (HB.out.trans (Below.mono hb HB.out.size))
      replace HG := Lib.hid (HG.out.below hb)
      replace HW := Lib.hid (HW.out.below hb)
      replace HM := Lib.hid (HM.out.below hb)
      replace EA := Lib.hid (EA.out.ext hb)
      replace EB := Lib.hid (EB.out.ext hb)
      replace K3 := Lib.hid (K3.out.ext hb)
      clear hb
      go_wp2
      go_ret
      exact ⟨rfl, HB.out⟩
    · have d2 : decide ((600 : Int) < (n2 : Int)) = false := decide_eq_false (by omega)
      have CE := Lib.hid (fun w hT hM => enc_any h HF.out w hT hM)
      have CR := Lib.hid (fun w => refEnc_any h w)
      have CD := Lib.hid (fun v w e hT hM => dec_ba v l1 w e hT hM)
      have CDr := Lib.hid (fun v w e => refDec_ba v l1 w e)
      have CP := Lib.hid (fun u v w e e' hT hM => pick_ba u v l1 l2 w e e' hT hM)
      have CPr := Lib.hid (fun u v w e e' => refPick_ba u v l1 l2 w e e')
      have CC := Lib.hid (fun w hM => check_any h HF.out w hM)
      have CM := Lib.hid (fun w => refMay_any h w)
      have CN := Lib.hid (fun n w hg => num_any (errS n) n w (errS_is n) hg)
      have hS := HF.out.s
      have CSl := Lib.hid (fun w => slot_any h.s w hS)
      obtain ⟨Q, hQ⟩ : ∃ Q, h.s % 2 = Q := ⟨_, rfl⟩
      have tq : (h.s : Int).tmod 2 = (Q : Int) := by rw [Int.tmod_eq_emod_of_nonneg (by omega)]; omega
      have tr : (h.s : Int) % 2 = (Q : Int) := by omega
      have zq : IntKind.i64.wrap (Q : Int) = (Q : Int) := by rw [IntKind.wrap_i64]; omega
      rw [hQ] at CSl
      obtain ⟨X, hX⟩ : ∃ X, (hdec l1).1 = X := ⟨_, rfl⟩
      obtain ⟨N, hN⟩ : ∃ N, (hdec l1).2 = N := ⟨_, rfl⟩
      obtain ⟨P, hP⟩ : ∃ P, (hpick l1 l2).1 = P := ⟨_, rfl⟩
      obtain ⟨M, hM1⟩ : ∃ M, (hpick l1 l2).2 = M := ⟨_, rfl⟩
      rw [hX, hN] at CD CDr
      rw [hP, hM1] at CP CPr
      obtain ⟨L, hL1⟩ : ∃ L, hL h = L := ⟨_, rfl⟩
      rw [hL1] at CE CR
      obtain ⟨E, hE1⟩ : ∃ E, hE h = E := ⟨_, rfl⟩
      obtain ⟨D, hD⟩ : ∃ D, hmayB h = D := ⟨_, rfl⟩
      have HE : Hid ((D = true ∧ E = 0) ∨ (D = false ∧ E = 1)) := by
        show _ ∨ _
        rw [← hE1, ← hD]
        unfold hE
        cases hmayB h with
        | true => exact .inl ⟨rfl, rfl⟩
        | false => exact .inr ⟨rfl, rfl⟩
      rw [hE1] at CE CR CC
      rw [hD] at CM
      clear hS hQ hX hN hP hM1 hL1 hE1 hD
      go_wp2_with (first
        | (refine wpList_box_arr rfl RHT (.tmp 0) rfl (hv h) (by rfl) ?_; intro g3 w1 hg3 hk3 hb3; replace HB := Lib.hid (HB.out.trans (Below.mono hb3 HB.out.size)); replace HG := Lib.hid (HG.out.below hb3); replace HW := Lib.hid (HW.out.below hb3); replace HM := Lib.hid (HM.out.below hb3); replace EA := Lib.hid (EA.out.ext hb3); replace EB := Lib.hid (EB.out.ext hb3); have K3 := Lib.hid hk3; clear hg3 hk3 hb3)
        | (refine wpList_load_agg rfl RHT (.tmp 3) rfl g3 0 (hv h) (by rfl) agg_RHT K3.out.at (hv_size _) ?_))
      refine (CE.out w1 HW.out HM.out).mono ?_
      rintro e u1 ⟨vc, rfl, hc, hb⟩
      replace HB := Lib.hid (HB.out.trans (Below.mono hb HB.out.size))
      replace HG := Lib.hid (HG.out.below hb)
      replace HW := Lib.hid (HW.out.below hb)
      replace HM := Lib.hid (HM.out.below hb)
      replace EA := Lib.hid (EA.out.ext hb)
      replace EB := Lib.hid (EB.out.ext hb)
      replace K3 := Lib.hid (K3.out.ext hb)
      clear hb
      have EC := Lib.hid hc
      clear hc
      go_wp2_with (first
        | (refine wpList_load_agg rfl RHT (.tmp 3) rfl g3 0 (hv h) (by rfl) agg_RHT K3.out.at (hv_size _) ?_))
      refine (CR.out u1).mono ?_
      rintro e u2 ⟨vd, rfl, hd, hb⟩
      replace HB := Lib.hid (HB.out.trans (Below.mono hb HB.out.size))
      replace HG := Lib.hid (HG.out.below hb)
      replace HW := Lib.hid (HW.out.below hb)
      replace HM := Lib.hid (HM.out.below hb)
      replace EA := Lib.hid (EA.out.ext hb)
      replace EB := Lib.hid (EB.out.ext hb)
      replace K3 := Lib.hid (K3.out.ext hb)
      replace EC := Lib.hid (EC.out.ext hb)
      clear hb
      have ED := Lib.hid hd
      clear hd
      go_wp2_with fail
      refine (CD.out _ u2 EA.out HW.out HM.out).mono ?_
      rintro e u3 ⟨rfl, hb⟩
      replace HB := Lib.hid (HB.out.trans (Below.mono hb HB.out.size))
      replace HG := Lib.hid (HG.out.below hb)
      replace HW := Lib.hid (HW.out.below hb)
      replace HM := Lib.hid (HM.out.below hb)
      replace EA := Lib.hid (EA.out.ext hb)
      replace EB := Lib.hid (EB.out.ext hb)
      replace K3 := Lib.hid (K3.out.ext hb)
      replace EC := Lib.hid (EC.out.ext hb)
      replace ED := Lib.hid (ED.out.ext hb)
      clear hb
      go_wp2_with (first
        | (show wpList _ _ _ (⟨some 11, _, _, _, _, _⟩ :: _) _ _; refine wpList_alloc_arr rfl HT rfl arrz_HT ?_; intro g11 wa11 hg11 hk11 hb11)
        | (refine wpList_store_agg rfl HT (.tmp 11) (.tmp 41) rfl g11 (hv X) _ HT (by rfl) (by rfl) agg_HT hk11 (hv_size _) (hv_size _) (hv_one _) ?_; intro wv11 hj11 ht11 hs11; have bb11 : Ext u3 wv11 := hb11.trans (ht11.below hb11.size (fun i hi => by subst hi; exact hg11)); replace HB := Lib.hid (HB.out.trans (Below.mono bb11 HB.out.size)); replace HG := Lib.hid (HG.out.below bb11); replace HW := Lib.hid (HW.out.below bb11); replace HM := Lib.hid (HM.out.below bb11); replace EA := Lib.hid (EA.out.ext bb11); replace EB := Lib.hid (EB.out.ext bb11); replace K3 := Lib.hid (K3.out.ext bb11); replace EC := Lib.hid (EC.out.ext bb11); replace ED := Lib.hid (ED.out.ext bb11); have K11 := Lib.hid hj11; have Q11 := Lib.hid hg11; clear hg11 hk11 hb11 hj11 ht11 hs11 bb11))
      refine (CDr.out _ wv11 EA.out).mono ?_
      rintro e u4 ⟨rfl, hb⟩
      replace HB := Lib.hid (HB.out.trans (Below.mono hb HB.out.size))
      replace HG := Lib.hid (HG.out.below hb)
      replace HW := Lib.hid (HW.out.below hb)
      replace HM := Lib.hid (HM.out.below hb)
      replace EA := Lib.hid (EA.out.ext hb)
      replace EB := Lib.hid (EB.out.ext hb)
      replace K3 := Lib.hid (K3.out.ext hb)
      replace EC := Lib.hid (EC.out.ext hb)
      replace ED := Lib.hid (ED.out.ext hb)
      replace K11 := Lib.hid (K11.out.ext hb)
      clear hb
      go_wp2_with (first
        | (show wpList _ _ _ (⟨some 13, _, _, _, _, _⟩ :: _) _ _; refine wpList_alloc_arr rfl RHT rfl arrz_RHT ?_; intro g13 wa13 hg13 hk13 hb13)
        | (refine wpList_store_agg rfl RHT (.tmp 13) (.tmp 46) rfl g13 (hv X) _ RHT (by rfl) (by rfl) agg_RHT hk13 (hv_size _) (hv_size _) (hv_one _) ?_; intro wv13 hj13 ht13 hs13; have bb13 : Ext u4 wv13 := hb13.trans (ht13.below hb13.size (fun i hi => by subst hi; exact hg13)); replace HB := Lib.hid (HB.out.trans (Below.mono bb13 HB.out.size)); replace HG := Lib.hid (HG.out.below bb13); replace HW := Lib.hid (HW.out.below bb13); replace HM := Lib.hid (HM.out.below bb13); replace EA := Lib.hid (EA.out.ext bb13); replace EB := Lib.hid (EB.out.ext bb13); replace K3 := Lib.hid (K3.out.ext bb13); replace EC := Lib.hid (EC.out.ext bb13); replace ED := Lib.hid (ED.out.ext bb13); replace K11 := Lib.hid (K11.out.ext bb13); have K13 := Lib.hid hj13; have Q13 := Lib.hid hg13; clear hg13 hk13 hb13 hj13 ht13 hs13 bb13))
      refine (CP.out _ _ wv13 EA.out EB.out HW.out HM.out).mono ?_
      rintro e u5 ⟨rfl, hb⟩
      replace HB := Lib.hid (HB.out.trans (Below.mono hb HB.out.size))
      replace HG := Lib.hid (HG.out.below hb)
      replace HW := Lib.hid (HW.out.below hb)
      replace HM := Lib.hid (HM.out.below hb)
      replace EA := Lib.hid (EA.out.ext hb)
      replace EB := Lib.hid (EB.out.ext hb)
      replace K3 := Lib.hid (K3.out.ext hb)
      replace EC := Lib.hid (EC.out.ext hb)
      replace ED := Lib.hid (ED.out.ext hb)
      replace K11 := Lib.hid (K11.out.ext hb)
      replace K13 := Lib.hid (K13.out.ext hb)
      clear hb
      go_wp2_with (first
        | (show wpList _ _ _ (⟨some 15, _, _, _, _, _⟩ :: _) _ _; refine wpList_alloc_arr rfl HT rfl arrz_HT ?_; intro g15 wa15 hg15 hk15 hb15)
        | (refine wpList_store_agg rfl HT (.tmp 15) (.tmp 52) rfl g15 (hv P) _ HT (by rfl) (by rfl) agg_HT hk15 (hv_size _) (hv_size _) (hv_one _) ?_; intro wv15 hj15 ht15 hs15; have bb15 : Ext u5 wv15 := hb15.trans (ht15.below hb15.size (fun i hi => by subst hi; exact hg15)); replace HB := Lib.hid (HB.out.trans (Below.mono bb15 HB.out.size)); replace HG := Lib.hid (HG.out.below bb15); replace HW := Lib.hid (HW.out.below bb15); replace HM := Lib.hid (HM.out.below bb15); replace EA := Lib.hid (EA.out.ext bb15); replace EB := Lib.hid (EB.out.ext bb15); replace K3 := Lib.hid (K3.out.ext bb15); replace EC := Lib.hid (EC.out.ext bb15); replace ED := Lib.hid (ED.out.ext bb15); replace K11 := Lib.hid (K11.out.ext bb15); replace K13 := Lib.hid (K13.out.ext bb15); have K15 := Lib.hid hj15; have Q15 := Lib.hid hg15; clear hg15 hk15 hb15 hj15 ht15 hs15 bb15))
      refine (CPr.out _ _ wv15 EA.out EB.out).mono ?_
      rintro e u6 ⟨rfl, hb⟩
      replace HB := Lib.hid (HB.out.trans (Below.mono hb HB.out.size))
      replace HG := Lib.hid (HG.out.below hb)
      replace HW := Lib.hid (HW.out.below hb)
      replace HM := Lib.hid (HM.out.below hb)
      replace EA := Lib.hid (EA.out.ext hb)
      replace EB := Lib.hid (EB.out.ext hb)
      replace K3 := Lib.hid (K3.out.ext hb)
      replace EC := Lib.hid (EC.out.ext hb)
      replace ED := Lib.hid (ED.out.ext hb)
      replace K11 := Lib.hid (K11.out.ext hb)
      replace K13 := Lib.hid (K13.out.ext hb)
      replace K15 := Lib.hid (K15.out.ext hb)
      clear hb
      go_wp2_with (first
        | (show wpList _ _ _ (⟨some 17, _, _, _, _, _⟩ :: _) _ _; refine wpList_alloc_arr rfl RHT rfl arrz_RHT ?_; intro g17 wa17 hg17 hk17 hb17)
        | (refine wpList_store_agg rfl RHT (.tmp 17) (.tmp 58) rfl g17 (hv P) _ RHT (by rfl) (by rfl) agg_RHT hk17 (hv_size _) (hv_size _) (hv_one _) ?_; intro wv17 hj17 ht17 hs17; have bb17 : Ext u6 wv17 := hb17.trans (ht17.below hb17.size (fun i hi => by subst hi; exact hg17)); replace HB := Lib.hid (HB.out.trans (Below.mono bb17 HB.out.size)); replace HG := Lib.hid (HG.out.below bb17); replace HW := Lib.hid (HW.out.below bb17); replace HM := Lib.hid (HM.out.below bb17); replace EA := Lib.hid (EA.out.ext bb17); replace EB := Lib.hid (EB.out.ext bb17); replace K3 := Lib.hid (K3.out.ext bb17); replace EC := Lib.hid (EC.out.ext bb17); replace ED := Lib.hid (ED.out.ext bb17); replace K11 := Lib.hid (K11.out.ext bb17); replace K13 := Lib.hid (K13.out.ext bb17); replace K15 := Lib.hid (K15.out.ext bb17); have K17 := Lib.hid hj17; have Q17 := Lib.hid hg17; clear hg17 hk17 hb17 hj17 ht17 hs17 bb17))
      clear CE CR CD CDr CP CPr
      refine wp_region_gr [(0, true), (1, true), (2, true), (3, true), (4, true), (5, true), (6, true), (8, true), (7, false), (9, true), (10, true), (11, true), (12, true), (13, true), (14, true), (15, true), (16, true), (17, true), (19, true), (18, false), (20, true), (21, true), (22, true), (23, true), (24, true), (25, true), (26, true), (27, true), (28, true), (30, true), (29, false), (31, true), (32, true), (33, true), (34, true), (37, true), (35, false), (36, true), (38, false), (39, true), (40, true), (41, true), (42, true), (43, true), (45, true), (46, true), (47, true), (48, true), (44, false), (49, true), (50, true), (51, true), (52, false), (53, true), (54, true)] (by kernel_rfl) (by kernel_rfl) (by kernel_rfl) (by kernel_rfl) (fun _ _ _ _ _ h => h) ?_
      replace HB := Lib.hid HB.out.drew
      replace HG := Lib.hid (HG.out.below (Ext.drew _))
      replace HW := Lib.hid (HW.out.below (Ext.drew _))
      replace HM := Lib.hid (HM.out.below (Ext.drew _))
      replace EA := Lib.hid (EA.out.ext (Ext.drew _))
      replace EB := Lib.hid (EB.out.ext (Ext.drew _))
      replace K3 := Lib.hid (K3.out.ext (Ext.drew _))
      replace EC := Lib.hid (EC.out.ext (Ext.drew _))
      replace ED := Lib.hid (ED.out.ext (Ext.drew _))
      replace K11 := Lib.hid (K11.out.ext (Ext.drew _))
      replace K13 := Lib.hid (K13.out.ext (Ext.drew _))
      replace K15 := Lib.hid (K15.out.ext (Ext.drew _))
      replace K17 := Lib.hid (K17.out.ext (Ext.drew _))
      generalize wv17.drew = ud at *
      obtain ⟨S, hS⟩ : ∃ S, bstr L = S := ⟨_, rfl⟩
      have rC : ∀ w', Ext ud w' → (convert 25 9 vc).run Tryd.prog w' = .ok (.string S) w' := fun w' hw => by rw [← hS]; exact (EC.out.ext hw).conv
      have rD : ∀ w', Ext ud w' → (convert 25 9 vd).run Tryd.prog w' = .ok (.string S) w' := fun w' hw => by rw [← hS]; exact (ED.out.ext hw).conv
      have sS : (S.toList == S.toList) = true := by simp
      clear hS
      iterate 8 (refine wpGr_read (o := ⟨_, _, _, _, _, _⟩) (v := ?_) rfl (by rfl) ?_ ?_; rotate_left; (intro w' hw'; go_simp; with_reducible rfl); simp only [Act.put, List.setIfInBounds_toArray, List.set_cons_zero, List.set_cons_succ])
      clear rC rD sS EC ED
      refine wpGr_call (o := ⟨_, _, _, _, _, _⟩) rfl (by rfl) (fun K hK => ?_)
      try go_simp
      refine (CN.out E ud HG.out).mono ?_
      rintro e u7 ⟨rfl, hb⟩
      refine hK _ _ hb ?_
      clear hK K
      replace HB := Lib.hid (HB.out.trans (Below.mono hb HB.out.size))
      replace HG := Lib.hid (HG.out.below hb)
      replace HW := Lib.hid (HW.out.below hb)
      replace HM := Lib.hid (HM.out.below hb)
      replace EA := Lib.hid (EA.out.ext hb)
      replace EB := Lib.hid (EB.out.ext hb)
      replace K3 := Lib.hid (K3.out.ext hb)
      replace K11 := Lib.hid (K11.out.ext hb)
      replace K13 := Lib.hid (K13.out.ext hb)
      replace K15 := Lib.hid (K15.out.ext hb)
      replace K17 := Lib.hid (K17.out.ext hb)
      clear hb
      try simp only [Act.put, List.setIfInBounds_toArray, List.set_cons_zero, List.set_cons_succ]
      iterate 3 (refine wpGr_read (o := ⟨_, _, _, _, _, _⟩) (v := ?_) rfl (by rfl) ?_ ?_; rotate_left; (intro w' hw'; go_simp; with_reducible rfl); simp only [Act.put, List.setIfInBounds_toArray, List.set_cons_zero, List.set_cons_succ])
      refine wpGr_read (o := ⟨_, _, _, _, _, _⟩) (v := .agg (hv X)) rfl (by rfl) (fun w' hw' => rd_load_agg HT (.tmp 11) rfl g11 0 (hv X) (by rfl) agg_HT (K11.out.ext hw').at (hv_size _)) ?_
      simp only [Act.put, List.setIfInBounds_toArray, List.set_cons_zero, List.set_cons_succ]
      refine wpGr_read (o := ⟨_, _, _, _, _, _⟩) (v := .agg (hv X)) rfl (by rfl) (fun w' hw' => rd_load_agg RHT (.tmp 13) rfl g13 0 (hv X) (by rfl) agg_RHT (K13.out.ext hw').at (hv_size _)) ?_
      simp only [Act.put, List.setIfInBounds_toArray, List.set_cons_zero, List.set_cons_succ]
      refine wpGr_read (o := ⟨_, _, _, _, _, _⟩) (v := .bool true) rfl (by rfl) (fun w' hw' => rd_eql_h (.tmp 72) (.tmp 73) _ rfl X X (by rfl) (by rfl) rfl) ?_
      simp only [Act.put, List.setIfInBounds_toArray, List.set_cons_zero, List.set_cons_succ]
      iterate 4 (refine wpGr_read (o := ⟨_, _, _, _, _, _⟩) (v := ?_) rfl (by rfl) ?_ ?_; rotate_left; (intro w' hw'; go_simp; with_reducible rfl); simp only [Act.put, List.setIfInBounds_toArray, List.set_cons_zero, List.set_cons_succ])
      refine wpGr_call (o := ⟨_, _, _, _, _, _⟩) rfl (by rfl) (fun K hK => ?_)
      try go_simp
      refine (CN.out N u7 HG.out).mono ?_
      rintro e u8 ⟨rfl, hb⟩
      refine hK _ _ hb ?_
      clear hK K
      replace HB := Lib.hid (HB.out.trans (Below.mono hb HB.out.size))
      replace HG := Lib.hid (HG.out.below hb)
      replace HW := Lib.hid (HW.out.below hb)
      replace HM := Lib.hid (HM.out.below hb)
      replace EA := Lib.hid (EA.out.ext hb)
      replace EB := Lib.hid (EB.out.ext hb)
      replace K3 := Lib.hid (K3.out.ext hb)
      replace K11 := Lib.hid (K11.out.ext hb)
      replace K13 := Lib.hid (K13.out.ext hb)
      replace K15 := Lib.hid (K15.out.ext hb)
      replace K17 := Lib.hid (K17.out.ext hb)
      clear hb
      try simp only [Act.put, List.setIfInBounds_toArray, List.set_cons_zero, List.set_cons_succ]
      iterate 3 (refine wpGr_read (o := ⟨_, _, _, _, _, _⟩) (v := ?_) rfl (by rfl) ?_ ?_; rotate_left; (intro w' hw'; go_simp; with_reducible rfl); simp only [Act.put, List.setIfInBounds_toArray, List.set_cons_zero, List.set_cons_succ])
      refine wpGr_read (o := ⟨_, _, _, _, _, _⟩) (v := .agg (hv P)) rfl (by rfl) (fun w' hw' => rd_load_agg HT (.tmp 15) rfl g15 0 (hv P) (by rfl) agg_HT (K15.out.ext hw').at (hv_size _)) ?_
      simp only [Act.put, List.setIfInBounds_toArray, List.set_cons_zero, List.set_cons_succ]
      refine wpGr_read (o := ⟨_, _, _, _, _, _⟩) (v := .agg (hv P)) rfl (by rfl) (fun w' hw' => rd_load_agg RHT (.tmp 17) rfl g17 0 (hv P) (by rfl) agg_RHT (K17.out.ext hw').at (hv_size _)) ?_
      simp only [Act.put, List.setIfInBounds_toArray, List.set_cons_zero, List.set_cons_succ]
      refine wpGr_read (o := ⟨_, _, _, _, _, _⟩) (v := .bool true) rfl (by rfl) (fun w' hw' => rd_eql_h (.tmp 83) (.tmp 84) _ rfl P P (by rfl) (by rfl) rfl) ?_
      simp only [Act.put, List.setIfInBounds_toArray, List.set_cons_zero, List.set_cons_succ]
      iterate 4 (refine wpGr_read (o := ⟨_, _, _, _, _, _⟩) (v := ?_) rfl (by rfl) ?_ ?_; rotate_left; (intro w' hw'; go_simp; with_reducible rfl); simp only [Act.put, List.setIfInBounds_toArray, List.set_cons_zero, List.set_cons_succ])
      refine wpGr_call (o := ⟨_, _, _, _, _, _⟩) rfl (by rfl) (fun K hK => ?_)
      try go_simp
      refine (CN.out M u8 HG.out).mono ?_
      rintro e u9 ⟨rfl, hb⟩
      refine hK _ _ hb ?_
      clear hK K
      replace HB := Lib.hid (HB.out.trans (Below.mono hb HB.out.size))
      replace HG := Lib.hid (HG.out.below hb)
      replace HW := Lib.hid (HW.out.below hb)
      replace HM := Lib.hid (HM.out.below hb)
      replace EA := Lib.hid (EA.out.ext hb)
      replace EB := Lib.hid (EB.out.ext hb)
      replace K3 := Lib.hid (K3.out.ext hb)
      replace K11 := Lib.hid (K11.out.ext hb)
      replace K13 := Lib.hid (K13.out.ext hb)
      replace K15 := Lib.hid (K15.out.ext hb)
      replace K17 := Lib.hid (K17.out.ext hb)
      clear hb
      try simp only [Act.put, List.setIfInBounds_toArray, List.set_cons_zero, List.set_cons_succ]
      iterate 3 (refine wpGr_read (o := ⟨_, _, _, _, _, _⟩) (v := ?_) rfl (by rfl) ?_ ?_; rotate_left; (intro w' hw'; go_simp; with_reducible rfl); simp only [Act.put, List.setIfInBounds_toArray, List.set_cons_zero, List.set_cons_succ])
      refine wpGr_read (o := ⟨_, _, _, _, _, _⟩) (v := .agg (hv h)) rfl (by rfl) (fun w' hw' => rd_load_agg RHT (.tmp 3) rfl g3 0 (hv h) (by rfl) agg_RHT (K3.out.ext hw').at (hv_size _)) ?_
      simp only [Act.put, List.setIfInBounds_toArray, List.set_cons_zero, List.set_cons_succ]
      refine wpGr_read (o := ⟨_, _, _, _, _, _⟩) (v := .agg (hv h)) rfl (by rfl) (fun w' hw' => rd_load_agg RHT (.tmp 3) rfl g3 0 (hv h) (by rfl) agg_RHT (K3.out.ext hw').at (hv_size _)) ?_
      simp only [Act.put, List.setIfInBounds_toArray, List.set_cons_zero, List.set_cons_succ]
      refine wpGr_call (o := ⟨_, _, _, _, _, _⟩) rfl (by rfl) (fun K hK => ?_)
      try go_simp
      refine (CC.out u9 HM.out).mono ?_
      rintro e u10 ⟨rfl, hb⟩
      refine hK _ _ hb ?_
      clear hK K
      replace HB := Lib.hid (HB.out.trans (Below.mono hb HB.out.size))
      replace HG := Lib.hid (HG.out.below hb)
      replace HW := Lib.hid (HW.out.below hb)
      replace HM := Lib.hid (HM.out.below hb)
      replace EA := Lib.hid (EA.out.ext hb)
      replace EB := Lib.hid (EB.out.ext hb)
      replace K3 := Lib.hid (K3.out.ext hb)
      replace K11 := Lib.hid (K11.out.ext hb)
      replace K13 := Lib.hid (K13.out.ext hb)
      replace K15 := Lib.hid (K15.out.ext hb)
      replace K17 := Lib.hid (K17.out.ext hb)
      clear hb
      try simp only [Act.put, List.setIfInBounds_toArray, List.set_cons_zero, List.set_cons_succ]
      rcases HE.out with ⟨hD, hE⟩ | ⟨hD, hE⟩
      · subst hD hE
        rw [errS_0]
        iterate 1 (refine wpGr_read (o := ⟨_, _, _, _, _, _⟩) (v := ?_) rfl (by rfl) ?_ ?_; rotate_left; (intro w' hw'; go_simp; with_reducible rfl); simp only [Act.put, List.setIfInBounds_toArray, List.set_cons_zero, List.set_cons_succ])
        refine wpGr_call (o := ⟨_, _, _, _, _, _⟩) rfl (by rfl) (fun K hK => ?_)
        try go_simp
        refine (CM.out u10).mono ?_
        rintro e u11 ⟨rfl, hb⟩
        refine hK _ _ hb ?_
        clear hK K
        replace HB := Lib.hid (HB.out.trans (Below.mono hb HB.out.size))
        replace HG := Lib.hid (HG.out.below hb)
        replace HW := Lib.hid (HW.out.below hb)
        replace HM := Lib.hid (HM.out.below hb)
        replace EA := Lib.hid (EA.out.ext hb)
        replace EB := Lib.hid (EB.out.ext hb)
        replace K3 := Lib.hid (K3.out.ext hb)
        replace K11 := Lib.hid (K11.out.ext hb)
        replace K13 := Lib.hid (K13.out.ext hb)
        replace K15 := Lib.hid (K15.out.ext hb)
        replace K17 := Lib.hid (K17.out.ext hb)
        clear hb
        try simp only [Act.put, List.setIfInBounds_toArray, List.set_cons_zero, List.set_cons_succ]
        iterate 3 (refine wpGr_read (o := ⟨_, _, _, _, _, _⟩) (v := ?_) rfl (by rfl) ?_ ?_; rotate_left; (intro w' hw'; go_simp; with_reducible rfl); simp only [Act.put, List.setIfInBounds_toArray, List.set_cons_zero, List.set_cons_succ])
        have qs : ∀ w', Ext u11 w' → w'.cell? ⟨g3, 0, none⟩ = some (.int .u64 (h.s : Nat)) := fun w' hw => (K3.out.ext hw).h0
        iterate 6 (refine wpGr_read (o := ⟨_, _, _, _, _, _⟩) (v := ?_) rfl (by rfl) ?_ ?_; rotate_left; (intro w' hw'; go_simp; with_reducible rfl); simp only [Act.put, List.setIfInBounds_toArray, List.set_cons_zero, List.set_cons_succ])
        clear qs
        refine wpGr_call (o := ⟨_, _, _, _, _, _⟩) rfl (by rfl) (fun K hK => ?_)
        try go_simp
        refine (CSl.out u11).mono ?_
        rintro e u ⟨rfl, rfl⟩
        refine hK _ _ (Ext.refl _) ?_
        clear hK K
        try simp only [Act.put, List.setIfInBounds_toArray, List.set_cons_zero, List.set_cons_succ]
        iterate 3 (refine wpGr_read (o := ⟨_, _, _, _, _, _⟩) (v := ?_) rfl (by rfl) ?_ ?_; rotate_left; (intro w' hw'; go_simp; with_reducible rfl); simp only [Act.put, List.setIfInBounds_toArray, List.set_cons_zero, List.set_cons_succ])
        refine wpGr_call (o := ⟨_, _, _, _, _, _⟩) rfl (by rfl) (fun K hK => ?_)
        try go_simp
        refine (CSu.out u11 HG.out HW.out HM.out).mono ?_
        rintro e u13 ⟨rfl, hb⟩
        refine hK _ _ hb ?_
        clear hK K
        replace HB := Lib.hid (HB.out.trans (Below.mono hb HB.out.size))
        replace HG := Lib.hid (HG.out.below hb)
        replace HW := Lib.hid (HW.out.below hb)
        replace HM := Lib.hid (HM.out.below hb)
        replace EA := Lib.hid (EA.out.ext hb)
        replace EB := Lib.hid (EB.out.ext hb)
        replace K3 := Lib.hid (K3.out.ext hb)
        replace K11 := Lib.hid (K11.out.ext hb)
        replace K13 := Lib.hid (K13.out.ext hb)
        replace K15 := Lib.hid (K15.out.ext hb)
        replace K17 := Lib.hid (K17.out.ext hb)
        clear hb
        try simp only [Act.put, List.setIfInBounds_toArray, List.set_cons_zero, List.set_cons_succ]
        iterate 2 (refine wpGr_read (o := ⟨_, _, _, _, _, _⟩) (v := ?_) rfl (by rfl) ?_ ?_; rotate_left; (intro w' hw'; go_simp; with_reducible rfl); simp only [Act.put, List.setIfInBounds_toArray, List.set_cons_zero, List.set_cons_succ])
        refine wpGr_done ?_
        go_wp2
        go_ret
        exact ⟨rfl, HB.out⟩
      · subst hD hE
        rw [errS_1]
        iterate 1 (refine wpGr_read (o := ⟨_, _, _, _, _, _⟩) (v := ?_) rfl (by rfl) ?_ ?_; rotate_left; (intro w' hw'; go_simp; with_reducible rfl); simp only [Act.put, List.setIfInBounds_toArray, List.set_cons_zero, List.set_cons_succ])
        refine wpGr_call (o := ⟨_, _, _, _, _, _⟩) rfl (by rfl) (fun K hK => ?_)
        try go_simp
        refine (CM.out u10).mono ?_
        rintro e u11 ⟨rfl, hb⟩
        refine hK _ _ hb ?_
        clear hK K
        replace HB := Lib.hid (HB.out.trans (Below.mono hb HB.out.size))
        replace HG := Lib.hid (HG.out.below hb)
        replace HW := Lib.hid (HW.out.below hb)
        replace HM := Lib.hid (HM.out.below hb)
        replace EA := Lib.hid (EA.out.ext hb)
        replace EB := Lib.hid (EB.out.ext hb)
        replace K3 := Lib.hid (K3.out.ext hb)
        replace K11 := Lib.hid (K11.out.ext hb)
        replace K13 := Lib.hid (K13.out.ext hb)
        replace K15 := Lib.hid (K15.out.ext hb)
        replace K17 := Lib.hid (K17.out.ext hb)
        clear hb
        try simp only [Act.put, List.setIfInBounds_toArray, List.set_cons_zero, List.set_cons_succ]
        iterate 3 (refine wpGr_read (o := ⟨_, _, _, _, _, _⟩) (v := ?_) rfl (by rfl) ?_ ?_; rotate_left; (intro w' hw'; go_simp; with_reducible rfl); simp only [Act.put, List.setIfInBounds_toArray, List.set_cons_zero, List.set_cons_succ])
        have qs : ∀ w', Ext u11 w' → w'.cell? ⟨g3, 0, none⟩ = some (.int .u64 (h.s : Nat)) := fun w' hw => (K3.out.ext hw).h0
        iterate 6 (refine wpGr_read (o := ⟨_, _, _, _, _, _⟩) (v := ?_) rfl (by rfl) ?_ ?_; rotate_left; (intro w' hw'; go_simp; with_reducible rfl); simp only [Act.put, List.setIfInBounds_toArray, List.set_cons_zero, List.set_cons_succ])
        clear qs
        refine wpGr_call (o := ⟨_, _, _, _, _, _⟩) rfl (by rfl) (fun K hK => ?_)
        try go_simp
        refine (CSl.out u11).mono ?_
        rintro e u ⟨rfl, rfl⟩
        refine hK _ _ (Ext.refl _) ?_
        clear hK K
        try simp only [Act.put, List.setIfInBounds_toArray, List.set_cons_zero, List.set_cons_succ]
        iterate 3 (refine wpGr_read (o := ⟨_, _, _, _, _, _⟩) (v := ?_) rfl (by rfl) ?_ ?_; rotate_left; (intro w' hw'; go_simp; with_reducible rfl); simp only [Act.put, List.setIfInBounds_toArray, List.set_cons_zero, List.set_cons_succ])
        refine wpGr_call (o := ⟨_, _, _, _, _, _⟩) rfl (by rfl) (fun K hK => ?_)
        try go_simp
        refine (CSu.out u11 HG.out HW.out HM.out).mono ?_
        rintro e u13 ⟨rfl, hb⟩
        refine hK _ _ hb ?_
        clear hK K
        replace HB := Lib.hid (HB.out.trans (Below.mono hb HB.out.size))
        replace HG := Lib.hid (HG.out.below hb)
        replace HW := Lib.hid (HW.out.below hb)
        replace HM := Lib.hid (HM.out.below hb)
        replace EA := Lib.hid (EA.out.ext hb)
        replace EB := Lib.hid (EB.out.ext hb)
        replace K3 := Lib.hid (K3.out.ext hb)
        replace K11 := Lib.hid (K11.out.ext hb)
        replace K13 := Lib.hid (K13.out.ext hb)
        replace K15 := Lib.hid (K15.out.ext hb)
        replace K17 := Lib.hid (K17.out.ext hb)
        clear hb
        try simp only [Act.put, List.setIfInBounds_toArray, List.set_cons_zero, List.set_cons_succ]
        iterate 2 (refine wpGr_read (o := ⟨_, _, _, _, _, _⟩) (v := ?_) rfl (by rfl) ?_ ?_; rotate_left; (intro w' hw'; go_simp; with_reducible rfl); simp only [Act.put, List.setIfInBounds_toArray, List.set_cons_zero, List.set_cons_succ])
        refine wpGr_done ?_
        go_wp2
        go_ret
        exact ⟨rfl, HB.out⟩
end Go.Proofs.YtofbomcimicccaaDoor
