/-
  PinsTells: the law's walk (mkptells.py).
-/
import Derived.Test.YtdgcghknfhhkiaaDoorSure18
import Derived.Test.YtdgcghknfhhkiaaDoorPinLaw
import Derived.Test.YtdgcghknfhhkiaaDoorRefPClose
import Derived.Test.YtdgcghknfhhkiaaDoorPinEql
namespace Go.Proofs.YtdgcghknfhhkiaaDoor
open Go Go.RowKit

set_option maxRecDepth 100000 in
set_option maxHeartbeats 8000000 in
theorem tells_any (a : Option Addr) (n c : Nat) (l : List Pn) (N d : Nat) (f : Nat → Bool) (w : World) (hn : l.length = n) (hs : PA w a l) (hlc : n ≤ c) (hcm : c ≤ maxLen) (hg : Hg w) :
    Calls Tryd.prog 3 #[.agg (psv N (.slice a n c)), .int .u64 (d : Nat), .agg (sc f)] w fun e w' => e = .returned (.bool true) ∧ Below w.heap.size w w' := by
  have HG := Lib.hid hg
  have HB := Lib.hid (Below.refl w.heap.size w)
  have hn9 : n ≤ 9223372036854775807 := by unfold maxLen at hcm; omega
  have CS := Lib.hid (fun w h => psure_any w h)
  by_cases h20 : 20 < n
  · have d1 : decide ((20 : Int) < (n : Int)) = true := decide_eq_true (by omega)
    clear hg hs hn h20 hlc hcm
    go_enter Tryd.func3, Tryd.ntmps3
    go_wp2_with (first
      | (refine wpList_box_arr rfl RPS (.tmp 0) rfl (psv N (.slice a n c)) (by rfl) ?_; intro g3 w1 hg3 hk3 hb3)
      | (refine wpList_box_arr rfl TW (.tmp 2) rfl (sc f) (by rfl) ?_; intro g5 w2 hg5 hk5 hb5; have q1 := (hk3.ext hb5).ps1))
    have hb : Ext w w2 := hb3.trans (Below.mono hb5 hb3.size)
    replace HG := Lib.hid (HG.out.below hb)
    replace HB : Hid (Below w.heap.size w w2) := hb
    clear hg3 hk3 hb3 hg5 hk5 hb5 hb q1
    refine (CS.out w2 HG.out).mono ?_
    rintro e w3 ⟨rfl, hb⟩
    replace HB := Lib.hid (HB.out.trans (Below.mono hb HB.out.size))
    clear hb
    go_wp2
    go_ret
    exact ⟨rfl, HB.out⟩
  · have d1 : decide ((20 : Int) < (n : Int)) = false := decide_eq_false (by omega)
    have HN := Lib.hid hn
    have AV := Lib.hid (show PV w (.slice a n c) l from ⟨a, c, by rw [hn], hs, by rw [hn]; exact hlc, hcm⟩)
    obtain ⟨P0, hP0⟩ : ∃ P, psv N (.slice a n c) = P := ⟨_, rfl⟩
    have sP0 : P0.size = 2 := by rw [← hP0]; rfl
    have CG := Lib.hid (fun w h => give_any (.slice a n c) l N w h (by rw [hn]; omega))
    have CO := Lib.hid (fun v w h => open_any v l N d f w h)
    have CRO := Lib.hid (fun w h => refOpen_any (.slice a n c) l N d f w h)
    have CC := Lib.hid (fun v w h => close_any v l N d w h)
    have CRC := Lib.hid (fun w h => refClose_any (.slice a n c) l N d w h)
    have CGe := Lib.hid (fun v w h => get_any v l N d w h)
    have CRG := Lib.hid (fun w h => refGet_any (.slice a n c) l N d w h)
    have COl := Lib.hid (fun v w h => oldest_any v l N w h)
    have CHe := Lib.hid (fun v w h => held_any v l N w h)
    have CCk := Lib.hid (fun v w h => check_any v l N w h)
    have CM := Lib.hid (fun w h => refMay_any (.slice a n c) l N w h)
    rw [hP0] at CG CRO CRC CRG CM ⊢
    obtain ⟨M, hM⟩ : ∃ M, opN l N = M := ⟨_, rfl⟩
    obtain ⟨E, hE⟩ : ∃ E, opE l N = E := ⟨_, rfl⟩
    obtain ⟨LA, hLA⟩ : ∃ L, opL l N d f = L := ⟨_, rfl⟩
    obtain ⟨MC, hMC⟩ : ∃ M, clN l N d = M := ⟨_, rfl⟩
    obtain ⟨J, hJ⟩ : ∃ J, fiE l N d = J := ⟨_, rfl⟩
    obtain ⟨LC, hLC⟩ : ∃ L, clL l N d = L := ⟨_, rfl⟩
    obtain ⟨G, hG⟩ : ∃ G, gtP l N d = G := ⟨_, rfl⟩
    rw [hM, hE, hLA] at CO CRO
    rw [hMC, hJ, hLC] at CC CRC
    rw [hG, hJ] at CGe CRG
    have CN1 := Lib.hid (fun w h => num_any (errC E) E w (errC_is E) h)
    have CN2 := Lib.hid (fun w h => num_any (errC J) J w (errC_is J) h)
    have HP0 := Lib.hid hP0
    clear hg hs hn h20 hlc hcm hM hE hLA hMC hJ hLC hG hP0
    obtain ⟨GI, GS, GF⟩ := G
    go_enter Tryd.func3, Tryd.ntmps3
    go_wp2_with (first
      | (refine wpList_box_arr rfl RPS (.tmp 0) rfl P0 (by rfl) ?_; intro g3 w1 hg3 hk3 hb3)
      | (refine wpList_box_arr rfl TW (.tmp 2) rfl (sc f) (by rfl) ?_; intro g5 w2 hg5 hk5 hb5; have bb : Ext w w2 := hb3.trans (Below.mono hb5 hb3.size); replace HB := Lib.hid (HB.out.trans (Below.mono bb HB.out.size)); replace HG := Lib.hid (HG.out.below bb); replace AV := Lib.hid (AV.out.ext bb); have K3 := Lib.hid (hk3.ext hb5); have K5 := Lib.hid hk5; have q1 : w2.cell? ⟨g3, 1, none⟩ = some (.slice a n c) := by have := K3.out; rw [← HP0.out] at this; exact this.ps1)
      | (refine wpList_load_agg rfl RPS (.tmp 3) rfl g3 0 P0 (by rfl) agg_RPS K3.out.at sP0 ?_))
    clear hg3 hk3 hb3 hg5 hk5 hb5 bb q1
    refine (CG.out w2 AV.out).mono ?_
    rintro e u1 ⟨vx, rfl, hvx, hb⟩
    replace HB := Lib.hid (HB.out.trans (Below.mono hb HB.out.size))
    replace HG := Lib.hid (HG.out.below hb)
    replace AV := Lib.hid (AV.out.ext hb)
    replace K3 := Lib.hid (K3.out.ext hb)
    replace K5 := Lib.hid (K5.out.ext hb)
    clear hb
    have EX := Lib.hid hvx
    obtain ⟨PX, hPX⟩ : ∃ P, psv N vx = P := ⟨_, rfl⟩
    have sPX : PX.size = 2 := by rw [← hPX]; rfl
    have oPX : PX.all (·.oneCell') = true := by rw [← hPX]; exact psv_one hvx
    rw [hPX]
    clear hvx
    replace CO := Lib.hid (fun w h => CO.out vx w h)
    rw [hPX] at CO
    replace CC := Lib.hid (fun w h => CC.out vx w h)
    rw [hPX] at CC
    replace CGe := Lib.hid (fun w h => CGe.out vx w h)
    rw [hPX] at CGe
    replace COl := Lib.hid (fun w h => COl.out vx w h)
    rw [hPX] at COl
    replace CHe := Lib.hid (fun w h => CHe.out vx w h)
    rw [hPX] at CHe
    replace CCk := Lib.hid (fun w h => CCk.out vx w h)
    rw [hPX] at CCk
    go_wp2_with (first
      | (show wpList _ _ _ (⟨some 7, _, _, _, _, _⟩ :: _) _ _; refine wpList_alloc_arr rfl PS rfl arrz_PS ?_; intro g7 wa7 hg7 hk7 hb7)
      | (refine wpList_store_agg rfl PS (.tmp 7) (.tmp 34) rfl g7 PX _ PS (by rfl) (by rfl) agg_PS hk7 sPX rfl oPX ?_; intro wv7 hj7 ht7 hs7; have bb7 : Ext u1 wv7 := hb7.trans (ht7.below hb7.size (fun i hi => by subst hi; exact hg7)); replace HB := Lib.hid (HB.out.trans (Below.mono bb7 HB.out.size)); replace HG := Lib.hid (HG.out.below bb7); replace AV := Lib.hid (AV.out.ext bb7); replace K3 := Lib.hid (K3.out.ext bb7); replace K5 := Lib.hid (K5.out.ext bb7); replace EX := Lib.hid (EX.out.ext bb7); have K7 := Lib.hid hj7; have Q7 := Lib.hid hg7; clear hg7 hk7 hb7 hj7 ht7 hs7 bb7)
      | (refine wpList_load_agg rfl RPS (.tmp 3) rfl g3 0 P0 (by rfl) agg_RPS K3.out.at sP0 ?_)
      | (refine wpList_load_agg rfl TW (.tmp 5) rfl g5 0 (sc f) (by rfl) agg_TW K5.out.at (sc_size _) ?_)
      | (refine wpList_load_agg rfl PS (.tmp 7) rfl g7 0 PX (by rfl) agg_PS K7.out.at sPX ?_))
    refine (CO.out wv7 EX.out).mono ?_
    rintro e u2 ⟨va, rfl, hva, hb⟩
    replace HB := Lib.hid (HB.out.trans (Below.mono hb HB.out.size))
    replace HG := Lib.hid (HG.out.below hb)
    replace AV := Lib.hid (AV.out.ext hb)
    replace K3 := Lib.hid (K3.out.ext hb)
    replace K5 := Lib.hid (K5.out.ext hb)
    replace EX := Lib.hid (EX.out.ext hb)
    replace K7 := Lib.hid (K7.out.ext hb)
    clear hb
    have EA := Lib.hid hva
    obtain ⟨PA, hPA⟩ : ∃ P, psv M va = P := ⟨_, rfl⟩
    have sPA : PA.size = 2 := by rw [← hPA]; rfl
    have oPA : PA.all (·.oneCell') = true := by rw [← hPA]; exact psv_one hva
    rw [hPA]
    clear hva
    go_wp2_with (first
      | (show wpList _ _ _ (⟨some 8, _, _, _, _, _⟩ :: _) _ _; refine wpList_alloc_arr rfl PS rfl arrz_PS ?_; intro g8 wa8 hg8 hk8 hb8)
      | (refine wpList_store_agg rfl PS (.tmp 8) (.tmp 40) rfl g8 PA _ PS (by rfl) (by rfl) agg_PS hk8 sPA rfl oPA ?_; intro wv8 hj8 ht8 hs8; have bb8 : Ext u2 wv8 := hb8.trans (ht8.below hb8.size (fun i hi => by subst hi; exact hg8)); replace HB := Lib.hid (HB.out.trans (Below.mono bb8 HB.out.size)); replace HG := Lib.hid (HG.out.below bb8); replace AV := Lib.hid (AV.out.ext bb8); replace K3 := Lib.hid (K3.out.ext bb8); replace K5 := Lib.hid (K5.out.ext bb8); replace EX := Lib.hid (EX.out.ext bb8); replace K7 := Lib.hid (K7.out.ext bb8); replace EA := Lib.hid (EA.out.ext bb8); have K8 := Lib.hid hj8; have Q8 := Lib.hid hg8; clear hg8 hk8 hb8 hj8 ht8 hs8 bb8)
      | (refine wpList_load_agg rfl RPS (.tmp 3) rfl g3 0 P0 (by rfl) agg_RPS K3.out.at sP0 ?_)
      | (refine wpList_load_agg rfl TW (.tmp 5) rfl g5 0 (sc f) (by rfl) agg_TW K5.out.at (sc_size _) ?_)
      | (refine wpList_load_agg rfl PS (.tmp 7) rfl g7 0 PX (by rfl) agg_PS K7.out.at sPX ?_)
      | (refine wpList_load_agg rfl PS (.tmp 8) rfl g8 0 PA (by rfl) agg_PS K8.out.at sPA ?_))
    refine (CRO.out wv8 AV.out).mono ?_
    rintro e u3 ⟨vb, rfl, hvb, hb⟩
    replace HB := Lib.hid (HB.out.trans (Below.mono hb HB.out.size))
    replace HG := Lib.hid (HG.out.below hb)
    replace AV := Lib.hid (AV.out.ext hb)
    replace K3 := Lib.hid (K3.out.ext hb)
    replace K5 := Lib.hid (K5.out.ext hb)
    replace EX := Lib.hid (EX.out.ext hb)
    replace K7 := Lib.hid (K7.out.ext hb)
    replace EA := Lib.hid (EA.out.ext hb)
    replace K8 := Lib.hid (K8.out.ext hb)
    clear hb
    have EB := Lib.hid hvb
    obtain ⟨PB, hPB⟩ : ∃ P, psv M vb = P := ⟨_, rfl⟩
    have sPB : PB.size = 2 := by rw [← hPB]; rfl
    have oPB : PB.all (·.oneCell') = true := by rw [← hPB]; exact psv_one hvb
    rw [hPB]
    clear hvb
    go_wp2_with (first
      | (show wpList _ _ _ (⟨some 11, _, _, _, _, _⟩ :: _) _ _; refine wpList_alloc_arr rfl RPS rfl arrz_RPS ?_; intro g11 wa11 hg11 hk11 hb11)
      | (refine wpList_store_agg rfl RPS (.tmp 11) (.tmp 48) rfl g11 PB _ RPS (by rfl) (by rfl) agg_RPS hk11 sPB rfl oPB ?_; intro wv11 hj11 ht11 hs11; have bb11 : Ext u3 wv11 := hb11.trans (ht11.below hb11.size (fun i hi => by subst hi; exact hg11)); replace HB := Lib.hid (HB.out.trans (Below.mono bb11 HB.out.size)); replace HG := Lib.hid (HG.out.below bb11); replace AV := Lib.hid (AV.out.ext bb11); replace K3 := Lib.hid (K3.out.ext bb11); replace K5 := Lib.hid (K5.out.ext bb11); replace EX := Lib.hid (EX.out.ext bb11); replace K7 := Lib.hid (K7.out.ext bb11); replace EA := Lib.hid (EA.out.ext bb11); replace K8 := Lib.hid (K8.out.ext bb11); replace EB := Lib.hid (EB.out.ext bb11); have K11 := Lib.hid hj11; have Q11 := Lib.hid hg11; clear hg11 hk11 hb11 hj11 ht11 hs11 bb11)
      | (refine wpList_load_agg rfl RPS (.tmp 3) rfl g3 0 P0 (by rfl) agg_RPS K3.out.at sP0 ?_)
      | (refine wpList_load_agg rfl TW (.tmp 5) rfl g5 0 (sc f) (by rfl) agg_TW K5.out.at (sc_size _) ?_)
      | (refine wpList_load_agg rfl PS (.tmp 7) rfl g7 0 PX (by rfl) agg_PS K7.out.at sPX ?_)
      | (refine wpList_load_agg rfl PS (.tmp 8) rfl g8 0 PA (by rfl) agg_PS K8.out.at sPA ?_)
      | (refine wpList_load_agg rfl RPS (.tmp 11) rfl g11 0 PB (by rfl) agg_RPS K11.out.at sPB ?_))
    refine (CC.out wv11 EX.out).mono ?_
    rintro e u4 ⟨vc, rfl, hvc, hb⟩
    replace HB := Lib.hid (HB.out.trans (Below.mono hb HB.out.size))
    replace HG := Lib.hid (HG.out.below hb)
    replace AV := Lib.hid (AV.out.ext hb)
    replace K3 := Lib.hid (K3.out.ext hb)
    replace K5 := Lib.hid (K5.out.ext hb)
    replace EX := Lib.hid (EX.out.ext hb)
    replace K7 := Lib.hid (K7.out.ext hb)
    replace EA := Lib.hid (EA.out.ext hb)
    replace K8 := Lib.hid (K8.out.ext hb)
    replace EB := Lib.hid (EB.out.ext hb)
    replace K11 := Lib.hid (K11.out.ext hb)
    clear hb
    have EC := Lib.hid hvc
    obtain ⟨PC, hPC⟩ : ∃ P, psv MC vc = P := ⟨_, rfl⟩
    have sPC : PC.size = 2 := by rw [← hPC]; rfl
    have oPC : PC.all (·.oneCell') = true := by rw [← hPC]; exact psv_one hvc
    rw [hPC]
    clear hvc
    go_wp2_with (first
      | (show wpList _ _ _ (⟨some 14, _, _, _, _, _⟩ :: _) _ _; refine wpList_alloc_arr rfl PS rfl arrz_PS ?_; intro g14 wa14 hg14 hk14 hb14)
      | (refine wpList_store_agg rfl PS (.tmp 14) (.tmp 55) rfl g14 PC _ PS (by rfl) (by rfl) agg_PS hk14 sPC rfl oPC ?_; intro wv14 hj14 ht14 hs14; have bb14 : Ext u4 wv14 := hb14.trans (ht14.below hb14.size (fun i hi => by subst hi; exact hg14)); replace HB := Lib.hid (HB.out.trans (Below.mono bb14 HB.out.size)); replace HG := Lib.hid (HG.out.below bb14); replace AV := Lib.hid (AV.out.ext bb14); replace K3 := Lib.hid (K3.out.ext bb14); replace K5 := Lib.hid (K5.out.ext bb14); replace EX := Lib.hid (EX.out.ext bb14); replace K7 := Lib.hid (K7.out.ext bb14); replace EA := Lib.hid (EA.out.ext bb14); replace K8 := Lib.hid (K8.out.ext bb14); replace EB := Lib.hid (EB.out.ext bb14); replace K11 := Lib.hid (K11.out.ext bb14); replace EC := Lib.hid (EC.out.ext bb14); have K14 := Lib.hid hj14; have Q14 := Lib.hid hg14; clear hg14 hk14 hb14 hj14 ht14 hs14 bb14)
      | (refine wpList_load_agg rfl RPS (.tmp 3) rfl g3 0 P0 (by rfl) agg_RPS K3.out.at sP0 ?_)
      | (refine wpList_load_agg rfl TW (.tmp 5) rfl g5 0 (sc f) (by rfl) agg_TW K5.out.at (sc_size _) ?_)
      | (refine wpList_load_agg rfl PS (.tmp 7) rfl g7 0 PX (by rfl) agg_PS K7.out.at sPX ?_)
      | (refine wpList_load_agg rfl PS (.tmp 8) rfl g8 0 PA (by rfl) agg_PS K8.out.at sPA ?_)
      | (refine wpList_load_agg rfl RPS (.tmp 11) rfl g11 0 PB (by rfl) agg_RPS K11.out.at sPB ?_)
      | (refine wpList_load_agg rfl PS (.tmp 14) rfl g14 0 PC (by rfl) agg_PS K14.out.at sPC ?_))
    refine (CRC.out wv14 AV.out).mono ?_
    rintro e u5 ⟨vd, rfl, hvd, hb⟩
    replace HB := Lib.hid (HB.out.trans (Below.mono hb HB.out.size))
    replace HG := Lib.hid (HG.out.below hb)
    replace AV := Lib.hid (AV.out.ext hb)
    replace K3 := Lib.hid (K3.out.ext hb)
    replace K5 := Lib.hid (K5.out.ext hb)
    replace EX := Lib.hid (EX.out.ext hb)
    replace K7 := Lib.hid (K7.out.ext hb)
    replace EA := Lib.hid (EA.out.ext hb)
    replace K8 := Lib.hid (K8.out.ext hb)
    replace EB := Lib.hid (EB.out.ext hb)
    replace K11 := Lib.hid (K11.out.ext hb)
    replace EC := Lib.hid (EC.out.ext hb)
    replace K14 := Lib.hid (K14.out.ext hb)
    clear hb
    have ED := Lib.hid hvd
    obtain ⟨PD, hPD⟩ : ∃ P, psv MC vd = P := ⟨_, rfl⟩
    have sPD : PD.size = 2 := by rw [← hPD]; rfl
    have oPD : PD.all (·.oneCell') = true := by rw [← hPD]; exact psv_one hvd
    rw [hPD]
    clear hvd
    go_wp2_with (first
      | (show wpList _ _ _ (⟨some 16, _, _, _, _, _⟩ :: _) _ _; refine wpList_alloc_arr rfl RPS rfl arrz_RPS ?_; intro g16 wa16 hg16 hk16 hb16)
      | (refine wpList_store_agg rfl RPS (.tmp 16) (.tmp 61) rfl g16 PD _ RPS (by rfl) (by rfl) agg_RPS hk16 sPD rfl oPD ?_; intro wv16 hj16 ht16 hs16; have bb16 : Ext u5 wv16 := hb16.trans (ht16.below hb16.size (fun i hi => by subst hi; exact hg16)); replace HB := Lib.hid (HB.out.trans (Below.mono bb16 HB.out.size)); replace HG := Lib.hid (HG.out.below bb16); replace AV := Lib.hid (AV.out.ext bb16); replace K3 := Lib.hid (K3.out.ext bb16); replace K5 := Lib.hid (K5.out.ext bb16); replace EX := Lib.hid (EX.out.ext bb16); replace K7 := Lib.hid (K7.out.ext bb16); replace EA := Lib.hid (EA.out.ext bb16); replace K8 := Lib.hid (K8.out.ext bb16); replace EB := Lib.hid (EB.out.ext bb16); replace K11 := Lib.hid (K11.out.ext bb16); replace EC := Lib.hid (EC.out.ext bb16); replace K14 := Lib.hid (K14.out.ext bb16); replace ED := Lib.hid (ED.out.ext bb16); have K16 := Lib.hid hj16; have Q16 := Lib.hid hg16; clear hg16 hk16 hb16 hj16 ht16 hs16 bb16)
      | (refine wpList_load_agg rfl RPS (.tmp 3) rfl g3 0 P0 (by rfl) agg_RPS K3.out.at sP0 ?_)
      | (refine wpList_load_agg rfl TW (.tmp 5) rfl g5 0 (sc f) (by rfl) agg_TW K5.out.at (sc_size _) ?_)
      | (refine wpList_load_agg rfl PS (.tmp 7) rfl g7 0 PX (by rfl) agg_PS K7.out.at sPX ?_)
      | (refine wpList_load_agg rfl PS (.tmp 8) rfl g8 0 PA (by rfl) agg_PS K8.out.at sPA ?_)
      | (refine wpList_load_agg rfl RPS (.tmp 11) rfl g11 0 PB (by rfl) agg_RPS K11.out.at sPB ?_)
      | (refine wpList_load_agg rfl PS (.tmp 14) rfl g14 0 PC (by rfl) agg_PS K14.out.at sPC ?_)
      | (refine wpList_load_agg rfl RPS (.tmp 16) rfl g16 0 PD (by rfl) agg_RPS K16.out.at sPD ?_))
    refine (CGe.out wv16 EX.out).mono ?_
    rintro e u6 ⟨rfl, hb⟩
    replace HB := Lib.hid (HB.out.trans (Below.mono hb HB.out.size))
    replace HG := Lib.hid (HG.out.below hb)
    replace AV := Lib.hid (AV.out.ext hb)
    replace K3 := Lib.hid (K3.out.ext hb)
    replace K5 := Lib.hid (K5.out.ext hb)
    replace EX := Lib.hid (EX.out.ext hb)
    replace K7 := Lib.hid (K7.out.ext hb)
    replace EA := Lib.hid (EA.out.ext hb)
    replace K8 := Lib.hid (K8.out.ext hb)
    replace EB := Lib.hid (EB.out.ext hb)
    replace K11 := Lib.hid (K11.out.ext hb)
    replace EC := Lib.hid (EC.out.ext hb)
    replace K14 := Lib.hid (K14.out.ext hb)
    replace ED := Lib.hid (ED.out.ext hb)
    replace K16 := Lib.hid (K16.out.ext hb)
    clear hb
    go_wp2_with (first
      | (show wpList _ _ _ (⟨some 18, _, _, _, _, _⟩ :: _) _ _; refine wpList_alloc_arr rfl PT rfl arrz_PT ?_; intro g18 wa18 hg18 hk18 hb18)
      | (refine wpList_store_agg rfl PT (.tmp 18) (.tmp 67) rfl g18 (pv ⟨GI, GS, GF⟩) _ PT (by rfl) (by rfl) agg_PT hk18 (pv_size _) (pv_size _) (pv_one _) ?_; intro wv18 hj18 ht18 hs18; have bb18 : Ext u6 wv18 := hb18.trans (ht18.below hb18.size (fun i hi => by subst hi; exact hg18)); replace HB := Lib.hid (HB.out.trans (Below.mono bb18 HB.out.size)); replace HG := Lib.hid (HG.out.below bb18); replace AV := Lib.hid (AV.out.ext bb18); replace K3 := Lib.hid (K3.out.ext bb18); replace K5 := Lib.hid (K5.out.ext bb18); replace EX := Lib.hid (EX.out.ext bb18); replace K7 := Lib.hid (K7.out.ext bb18); replace EA := Lib.hid (EA.out.ext bb18); replace K8 := Lib.hid (K8.out.ext bb18); replace EB := Lib.hid (EB.out.ext bb18); replace K11 := Lib.hid (K11.out.ext bb18); replace EC := Lib.hid (EC.out.ext bb18); replace K14 := Lib.hid (K14.out.ext bb18); replace ED := Lib.hid (ED.out.ext bb18); replace K16 := Lib.hid (K16.out.ext bb18); have K18 := Lib.hid hj18; have Q18 := Lib.hid hg18; clear hg18 hk18 hb18 hj18 ht18 hs18 bb18)
      | (refine wpList_load_agg rfl RPS (.tmp 3) rfl g3 0 P0 (by rfl) agg_RPS K3.out.at sP0 ?_)
      | (refine wpList_load_agg rfl TW (.tmp 5) rfl g5 0 (sc f) (by rfl) agg_TW K5.out.at (sc_size _) ?_)
      | (refine wpList_load_agg rfl PS (.tmp 7) rfl g7 0 PX (by rfl) agg_PS K7.out.at sPX ?_)
      | (refine wpList_load_agg rfl PS (.tmp 8) rfl g8 0 PA (by rfl) agg_PS K8.out.at sPA ?_)
      | (refine wpList_load_agg rfl RPS (.tmp 11) rfl g11 0 PB (by rfl) agg_RPS K11.out.at sPB ?_)
      | (refine wpList_load_agg rfl PS (.tmp 14) rfl g14 0 PC (by rfl) agg_PS K14.out.at sPC ?_)
      | (refine wpList_load_agg rfl RPS (.tmp 16) rfl g16 0 PD (by rfl) agg_RPS K16.out.at sPD ?_)
      | (refine wpList_load_agg rfl PT (.tmp 18) rfl g18 0 (pv ⟨GI, GS, GF⟩) (by rfl) agg_PT K18.out.at (pv_size _) ?_))
    refine (CRG.out wv18 AV.out).mono ?_
    rintro e u7 ⟨rfl, hb⟩
    replace HB := Lib.hid (HB.out.trans (Below.mono hb HB.out.size))
    replace HG := Lib.hid (HG.out.below hb)
    replace AV := Lib.hid (AV.out.ext hb)
    replace K3 := Lib.hid (K3.out.ext hb)
    replace K5 := Lib.hid (K5.out.ext hb)
    replace EX := Lib.hid (EX.out.ext hb)
    replace K7 := Lib.hid (K7.out.ext hb)
    replace EA := Lib.hid (EA.out.ext hb)
    replace K8 := Lib.hid (K8.out.ext hb)
    replace EB := Lib.hid (EB.out.ext hb)
    replace K11 := Lib.hid (K11.out.ext hb)
    replace EC := Lib.hid (EC.out.ext hb)
    replace K14 := Lib.hid (K14.out.ext hb)
    replace ED := Lib.hid (ED.out.ext hb)
    replace K16 := Lib.hid (K16.out.ext hb)
    replace K18 := Lib.hid (K18.out.ext hb)
    clear hb
    go_wp2_with (first
      | (show wpList _ _ _ (⟨some 20, _, _, _, _, _⟩ :: _) _ _; refine wpList_alloc_arr rfl RPT rfl arrz_RPT ?_; intro g20 wa20 hg20 hk20 hb20)
      | (refine wpList_store_agg rfl RPT (.tmp 20) (.tmp 73) rfl g20 (pv ⟨GI, GS, GF⟩) _ RPT (by rfl) (by rfl) agg_RPT hk20 (pv_size _) (pv_size _) (pv_one _) ?_; intro wv20 hj20 ht20 hs20; have bb20 : Ext u7 wv20 := hb20.trans (ht20.below hb20.size (fun i hi => by subst hi; exact hg20)); replace HB := Lib.hid (HB.out.trans (Below.mono bb20 HB.out.size)); replace HG := Lib.hid (HG.out.below bb20); replace AV := Lib.hid (AV.out.ext bb20); replace K3 := Lib.hid (K3.out.ext bb20); replace K5 := Lib.hid (K5.out.ext bb20); replace EX := Lib.hid (EX.out.ext bb20); replace K7 := Lib.hid (K7.out.ext bb20); replace EA := Lib.hid (EA.out.ext bb20); replace K8 := Lib.hid (K8.out.ext bb20); replace EB := Lib.hid (EB.out.ext bb20); replace K11 := Lib.hid (K11.out.ext bb20); replace EC := Lib.hid (EC.out.ext bb20); replace K14 := Lib.hid (K14.out.ext bb20); replace ED := Lib.hid (ED.out.ext bb20); replace K16 := Lib.hid (K16.out.ext bb20); replace K18 := Lib.hid (K18.out.ext bb20); have K20 := Lib.hid hj20; have Q20 := Lib.hid hg20; clear hg20 hk20 hb20 hj20 ht20 hs20 bb20)
      | (refine wpList_load_agg rfl RPS (.tmp 3) rfl g3 0 P0 (by rfl) agg_RPS K3.out.at sP0 ?_)
      | (refine wpList_load_agg rfl TW (.tmp 5) rfl g5 0 (sc f) (by rfl) agg_TW K5.out.at (sc_size _) ?_)
      | (refine wpList_load_agg rfl PS (.tmp 7) rfl g7 0 PX (by rfl) agg_PS K7.out.at sPX ?_)
      | (refine wpList_load_agg rfl PS (.tmp 8) rfl g8 0 PA (by rfl) agg_PS K8.out.at sPA ?_)
      | (refine wpList_load_agg rfl RPS (.tmp 11) rfl g11 0 PB (by rfl) agg_RPS K11.out.at sPB ?_)
      | (refine wpList_load_agg rfl PS (.tmp 14) rfl g14 0 PC (by rfl) agg_PS K14.out.at sPC ?_)
      | (refine wpList_load_agg rfl RPS (.tmp 16) rfl g16 0 PD (by rfl) agg_RPS K16.out.at sPD ?_)
      | (refine wpList_load_agg rfl PT (.tmp 18) rfl g18 0 (pv ⟨GI, GS, GF⟩) (by rfl) agg_PT K18.out.at (pv_size _) ?_)
      | (refine wpList_load_agg rfl RPT (.tmp 20) rfl g20 0 (pv ⟨GI, GS, GF⟩) (by rfl) agg_RPT K20.out.at (pv_size _) ?_))
    have ca := Lib.hid (fun w h1 h2 => are_any va vb LA M w h1 h2)
    rw [hPA, hPB] at ca
    have cc := Lib.hid (fun w h1 h2 => are_any vc vd LC MC w h1 h2)
    rw [hPC, hPD] at cc
    have cx := Lib.hid (fun w h1 h2 => are_any vx (.slice a n c) l N w h1 h2)
    rw [hPX, HP0.out] at cx
    clear hPA hPB hPC hPD hPX
    refine (ca.out wv20 EA.out EB.out.pv).mono ?_
    rintro e u8 ⟨rfl, hb⟩
    replace HB := Lib.hid (HB.out.trans (Below.mono hb HB.out.size))
    replace HG := Lib.hid (HG.out.below hb)
    replace AV := Lib.hid (AV.out.ext hb)
    replace K3 := Lib.hid (K3.out.ext hb)
    replace K5 := Lib.hid (K5.out.ext hb)
    replace EX := Lib.hid (EX.out.ext hb)
    replace K7 := Lib.hid (K7.out.ext hb)
    replace EA := Lib.hid (EA.out.ext hb)
    replace K8 := Lib.hid (K8.out.ext hb)
    replace EB := Lib.hid (EB.out.ext hb)
    replace K11 := Lib.hid (K11.out.ext hb)
    replace EC := Lib.hid (EC.out.ext hb)
    replace K14 := Lib.hid (K14.out.ext hb)
    replace ED := Lib.hid (ED.out.ext hb)
    replace K16 := Lib.hid (K16.out.ext hb)
    replace K18 := Lib.hid (K18.out.ext hb)
    replace K20 := Lib.hid (K20.out.ext hb)
    clear hb
    go_wp2_with (first
      | (refine wpList_load_agg_when (by rfl) RPS (.tmp 3) rfl g3 0 P0 (by rfl) agg_RPS K3.out.at sP0 ?_)
      | (refine wpList_load_agg_when (by rfl) TW (.tmp 5) rfl g5 0 (sc f) (by rfl) agg_TW K5.out.at (sc_size _) ?_)
      | (refine wpList_load_agg_when (by rfl) PS (.tmp 7) rfl g7 0 PX (by rfl) agg_PS K7.out.at sPX ?_)
      | (refine wpList_load_agg_when (by rfl) PS (.tmp 8) rfl g8 0 PA (by rfl) agg_PS K8.out.at sPA ?_)
      | (refine wpList_load_agg_when (by rfl) RPS (.tmp 11) rfl g11 0 PB (by rfl) agg_RPS K11.out.at sPB ?_)
      | (refine wpList_load_agg_when (by rfl) PS (.tmp 14) rfl g14 0 PC (by rfl) agg_PS K14.out.at sPC ?_)
      | (refine wpList_load_agg_when (by rfl) RPS (.tmp 16) rfl g16 0 PD (by rfl) agg_RPS K16.out.at sPD ?_)
      | (refine wpList_load_agg_when (by rfl) PT (.tmp 18) rfl g18 0 (pv ⟨GI, GS, GF⟩) (by rfl) agg_PT K18.out.at (pv_size _) ?_)
      | (refine wpList_load_agg_when (by rfl) RPT (.tmp 20) rfl g20 0 (pv ⟨GI, GS, GF⟩) (by rfl) agg_RPT K20.out.at (pv_size _) ?_))
    refine (CN1.out u8 HG.out).mono ?_
    rintro e u9 ⟨rfl, hb⟩
    replace HB := Lib.hid (HB.out.trans (Below.mono hb HB.out.size))
    replace HG := Lib.hid (HG.out.below hb)
    replace AV := Lib.hid (AV.out.ext hb)
    replace K3 := Lib.hid (K3.out.ext hb)
    replace K5 := Lib.hid (K5.out.ext hb)
    replace EX := Lib.hid (EX.out.ext hb)
    replace K7 := Lib.hid (K7.out.ext hb)
    replace EA := Lib.hid (EA.out.ext hb)
    replace K8 := Lib.hid (K8.out.ext hb)
    replace EB := Lib.hid (EB.out.ext hb)
    replace K11 := Lib.hid (K11.out.ext hb)
    replace EC := Lib.hid (EC.out.ext hb)
    replace K14 := Lib.hid (K14.out.ext hb)
    replace ED := Lib.hid (ED.out.ext hb)
    replace K16 := Lib.hid (K16.out.ext hb)
    replace K18 := Lib.hid (K18.out.ext hb)
    replace K20 := Lib.hid (K20.out.ext hb)
    clear hb
    go_wp2_with (first
      | (refine wpList_load_agg_when (by rfl) RPS (.tmp 3) rfl g3 0 P0 (by rfl) agg_RPS K3.out.at sP0 ?_)
      | (refine wpList_load_agg_when (by rfl) TW (.tmp 5) rfl g5 0 (sc f) (by rfl) agg_TW K5.out.at (sc_size _) ?_)
      | (refine wpList_load_agg_when (by rfl) PS (.tmp 7) rfl g7 0 PX (by rfl) agg_PS K7.out.at sPX ?_)
      | (refine wpList_load_agg_when (by rfl) PS (.tmp 8) rfl g8 0 PA (by rfl) agg_PS K8.out.at sPA ?_)
      | (refine wpList_load_agg_when (by rfl) RPS (.tmp 11) rfl g11 0 PB (by rfl) agg_RPS K11.out.at sPB ?_)
      | (refine wpList_load_agg_when (by rfl) PS (.tmp 14) rfl g14 0 PC (by rfl) agg_PS K14.out.at sPC ?_)
      | (refine wpList_load_agg_when (by rfl) RPS (.tmp 16) rfl g16 0 PD (by rfl) agg_RPS K16.out.at sPD ?_)
      | (refine wpList_load_agg_when (by rfl) PT (.tmp 18) rfl g18 0 (pv ⟨GI, GS, GF⟩) (by rfl) agg_PT K18.out.at (pv_size _) ?_)
      | (refine wpList_load_agg_when (by rfl) RPT (.tmp 20) rfl g20 0 (pv ⟨GI, GS, GF⟩) (by rfl) agg_RPT K20.out.at (pv_size _) ?_))
    refine (cc.out u9 EC.out ED.out.pv).mono ?_
    rintro e u10 ⟨rfl, hb⟩
    replace HB := Lib.hid (HB.out.trans (Below.mono hb HB.out.size))
    replace HG := Lib.hid (HG.out.below hb)
    replace AV := Lib.hid (AV.out.ext hb)
    replace K3 := Lib.hid (K3.out.ext hb)
    replace K5 := Lib.hid (K5.out.ext hb)
    replace EX := Lib.hid (EX.out.ext hb)
    replace K7 := Lib.hid (K7.out.ext hb)
    replace EA := Lib.hid (EA.out.ext hb)
    replace K8 := Lib.hid (K8.out.ext hb)
    replace EB := Lib.hid (EB.out.ext hb)
    replace K11 := Lib.hid (K11.out.ext hb)
    replace EC := Lib.hid (EC.out.ext hb)
    replace K14 := Lib.hid (K14.out.ext hb)
    replace ED := Lib.hid (ED.out.ext hb)
    replace K16 := Lib.hid (K16.out.ext hb)
    replace K18 := Lib.hid (K18.out.ext hb)
    replace K20 := Lib.hid (K20.out.ext hb)
    clear hb
    go_wp2_with (first
      | (refine wpList_load_agg_when (by rfl) RPS (.tmp 3) rfl g3 0 P0 (by rfl) agg_RPS K3.out.at sP0 ?_)
      | (refine wpList_load_agg_when (by rfl) TW (.tmp 5) rfl g5 0 (sc f) (by rfl) agg_TW K5.out.at (sc_size _) ?_)
      | (refine wpList_load_agg_when (by rfl) PS (.tmp 7) rfl g7 0 PX (by rfl) agg_PS K7.out.at sPX ?_)
      | (refine wpList_load_agg_when (by rfl) PS (.tmp 8) rfl g8 0 PA (by rfl) agg_PS K8.out.at sPA ?_)
      | (refine wpList_load_agg_when (by rfl) RPS (.tmp 11) rfl g11 0 PB (by rfl) agg_RPS K11.out.at sPB ?_)
      | (refine wpList_load_agg_when (by rfl) PS (.tmp 14) rfl g14 0 PC (by rfl) agg_PS K14.out.at sPC ?_)
      | (refine wpList_load_agg_when (by rfl) RPS (.tmp 16) rfl g16 0 PD (by rfl) agg_RPS K16.out.at sPD ?_)
      | (refine wpList_load_agg_when (by rfl) PT (.tmp 18) rfl g18 0 (pv ⟨GI, GS, GF⟩) (by rfl) agg_PT K18.out.at (pv_size _) ?_)
      | (refine wpList_load_agg_when (by rfl) RPT (.tmp 20) rfl g20 0 (pv ⟨GI, GS, GF⟩) (by rfl) agg_RPT K20.out.at (pv_size _) ?_))
    refine (CN2.out u10 HG.out).mono ?_
    rintro e u11 ⟨rfl, hb⟩
    replace HB := Lib.hid (HB.out.trans (Below.mono hb HB.out.size))
    replace HG := Lib.hid (HG.out.below hb)
    replace AV := Lib.hid (AV.out.ext hb)
    replace K3 := Lib.hid (K3.out.ext hb)
    replace K5 := Lib.hid (K5.out.ext hb)
    replace EX := Lib.hid (EX.out.ext hb)
    replace K7 := Lib.hid (K7.out.ext hb)
    replace EA := Lib.hid (EA.out.ext hb)
    replace K8 := Lib.hid (K8.out.ext hb)
    replace EB := Lib.hid (EB.out.ext hb)
    replace K11 := Lib.hid (K11.out.ext hb)
    replace EC := Lib.hid (EC.out.ext hb)
    replace K14 := Lib.hid (K14.out.ext hb)
    replace ED := Lib.hid (ED.out.ext hb)
    replace K16 := Lib.hid (K16.out.ext hb)
    replace K18 := Lib.hid (K18.out.ext hb)
    replace K20 := Lib.hid (K20.out.ext hb)
    clear hb
    have q0 := K18.out.at.id
    have q1 := K18.out.at.sq
    have q2 := K20.out.at.id
    have q3 := K20.out.at.sq
    rw [Nat.zero_add] at q1 q3
    have r0 := Lib.hid K18.out.at.pages
    have r1 := Lib.hid K20.out.at.pages
    rw [Nat.zero_add] at r0 r1
    go_wp2_with (first
      | (refine wpList_load_agg_when (by rfl) TS (.tmp 117) rfl g18 2 (sc GF) (by rfl) agg_TS r0.out (sc_size _) ?_)
      | (refine wpList_load_agg_when (by rfl) TW (.tmp 119) rfl g20 2 (sc GF) (by rfl) agg_TW r1.out (sc_size _) ?_)
      | (refine wpList_neq_sc_when (by rfl) (.tmp 118) (.tmp 120) _ rfl GF GF (by rfl) (by rfl) rfl ?_))
    clear q0 q1 q2 q3 r0 r1
    refine (CN2.out u11 HG.out).mono ?_
    rintro e u12 ⟨rfl, hb⟩
    replace HB := Lib.hid (HB.out.trans (Below.mono hb HB.out.size))
    replace HG := Lib.hid (HG.out.below hb)
    replace AV := Lib.hid (AV.out.ext hb)
    replace K3 := Lib.hid (K3.out.ext hb)
    replace K5 := Lib.hid (K5.out.ext hb)
    replace EX := Lib.hid (EX.out.ext hb)
    replace K7 := Lib.hid (K7.out.ext hb)
    replace EA := Lib.hid (EA.out.ext hb)
    replace K8 := Lib.hid (K8.out.ext hb)
    replace EB := Lib.hid (EB.out.ext hb)
    replace K11 := Lib.hid (K11.out.ext hb)
    replace EC := Lib.hid (EC.out.ext hb)
    replace K14 := Lib.hid (K14.out.ext hb)
    replace ED := Lib.hid (ED.out.ext hb)
    replace K16 := Lib.hid (K16.out.ext hb)
    replace K18 := Lib.hid (K18.out.ext hb)
    replace K20 := Lib.hid (K20.out.ext hb)
    clear hb
    go_wp2_with (first
      | (refine wpList_load_agg_when (by rfl) RPS (.tmp 3) rfl g3 0 P0 (by rfl) agg_RPS K3.out.at sP0 ?_)
      | (refine wpList_load_agg_when (by rfl) TW (.tmp 5) rfl g5 0 (sc f) (by rfl) agg_TW K5.out.at (sc_size _) ?_)
      | (refine wpList_load_agg_when (by rfl) PS (.tmp 7) rfl g7 0 PX (by rfl) agg_PS K7.out.at sPX ?_)
      | (refine wpList_load_agg_when (by rfl) PS (.tmp 8) rfl g8 0 PA (by rfl) agg_PS K8.out.at sPA ?_)
      | (refine wpList_load_agg_when (by rfl) RPS (.tmp 11) rfl g11 0 PB (by rfl) agg_RPS K11.out.at sPB ?_)
      | (refine wpList_load_agg_when (by rfl) PS (.tmp 14) rfl g14 0 PC (by rfl) agg_PS K14.out.at sPC ?_)
      | (refine wpList_load_agg_when (by rfl) RPS (.tmp 16) rfl g16 0 PD (by rfl) agg_RPS K16.out.at sPD ?_)
      | (refine wpList_load_agg_when (by rfl) PT (.tmp 18) rfl g18 0 (pv ⟨GI, GS, GF⟩) (by rfl) agg_PT K18.out.at (pv_size _) ?_)
      | (refine wpList_load_agg_when (by rfl) RPT (.tmp 20) rfl g20 0 (pv ⟨GI, GS, GF⟩) (by rfl) agg_RPT K20.out.at (pv_size _) ?_))
    refine (cx.out u12 EX.out AV.out).mono ?_
    rintro e u13 ⟨rfl, hb⟩
    replace HB := Lib.hid (HB.out.trans (Below.mono hb HB.out.size))
    replace HG := Lib.hid (HG.out.below hb)
    replace AV := Lib.hid (AV.out.ext hb)
    replace K3 := Lib.hid (K3.out.ext hb)
    replace K5 := Lib.hid (K5.out.ext hb)
    replace EX := Lib.hid (EX.out.ext hb)
    replace K7 := Lib.hid (K7.out.ext hb)
    replace EA := Lib.hid (EA.out.ext hb)
    replace K8 := Lib.hid (K8.out.ext hb)
    replace EB := Lib.hid (EB.out.ext hb)
    replace K11 := Lib.hid (K11.out.ext hb)
    replace EC := Lib.hid (EC.out.ext hb)
    replace K14 := Lib.hid (K14.out.ext hb)
    replace ED := Lib.hid (ED.out.ext hb)
    replace K16 := Lib.hid (K16.out.ext hb)
    replace K18 := Lib.hid (K18.out.ext hb)
    replace K20 := Lib.hid (K20.out.ext hb)
    clear hb
    clear ca cc cx CN1 CN2 CO CRO CC CRC CGe CRG CG K8 K11 K14 K16 K18 K20 EA EB EC ED K5 Q7 Q8 Q11 Q14 Q16 Q18 Q20 sPA oPA sPB oPB sPC oPC sPD oPD oPX
    have hdT : hdR l N = if pmayB l N = true then heldR l else fun _ => false := rfl
    have olTT : olT l N = if pmayB l N = true then oldT l else 0 := rfl
    have olBB : olB l N = (pmayB l N && decide (0 < n)) := by rw [← HN.out]; rfl
    have mE : mayE l N = if pmayB l N = true then 0 else 1 := rfl
    obtain ⟨TL, hTL⟩ : ∃ T, oldT l = T := ⟨_, rfl⟩
    rw [hTL] at olTT
    have HTL := Lib.hid hTL
    clear hTL
    have HL3 : Hid (g3 < u13.heap.size) := K3.out.lt
    have HLg : Hid (0 < n → ∀ g o, a = some ⟨g, o, none⟩ → g < u13.heap.size) := fun h g o e => by
      obtain ⟨a', c', hac, hpa, _, _⟩ := AV.out
      rw [HN.out] at hac
      cases hac
      subst e
      obtain ⟨g', o', he, hcell⟩ := hpa.pin (by rw [HN.out]; exact h)
      cases he
      exact (hcell 0 (by rw [HN.out]; exact h)).lt (by rw [pv_size]; decide)
    cases hmy : pmayB l N with
    | false =>
      rw [hmy, if_neg (by decide)] at mE hdT olTT
      rw [hmy] at CM
      rw [mE, errC_1] at CCk
      rw [hmy, Bool.false_and] at olBB
      rw [hdT] at CHe
      rw [olTT, olBB] at COl
      clear mE hdT olTT olBB hmy HTL
      go_wp2_with (first
        | (show wpList _ _ _ (⟨some 22, _, _, _, _, _⟩ :: _) _ _; refine wpList_alloc_arr rfl TS rfl arrz_TS ?_; intro g22 w22 hg22 hk22 hb22))
      have K22 := Lib.hid hk22
      have Hb := Lib.hid hb22
      clear hg22 hk22 hb22
      go_loopw [23, 24, 25] (fun t23 t24 i wr => t23 = .int .u64 0 ∧ t24 = .bool false ∧ i = .int .i64 0 ∧ Hid (Below w22.heap.size w22 wr)) (fun _ _ _ _ => 0)
      case atStart => exact ⟨rfl, rfl, rfl, Below.refl _ _⟩
      case round =>
        obtain ⟨rfl, rfl, rfl, hE⟩ := hrel
        have hb : Ext u13 _ := Hb.out.trans (Below.mono hE.out Hb.out.size)
        replace HB := Lib.hid (HB.out.trans (Below.mono hb HB.out.size))
        replace HG := Lib.hid (HG.out.below hb)
        replace AV := Lib.hid (AV.out.ext hb)
        replace K3 := Lib.hid (K3.out.ext hb)
        replace EX := Lib.hid (EX.out.ext hb)
        replace K7 := Lib.hid (K7.out.ext hb)
        replace K22 := Lib.hid (K22.out.ext hE.out)
        clear hb hE Hb
        have q1 : wr.cell? ⟨g3, 1, none⟩ = some (.slice a n c) := by have := K3.out; rw [← HP0.out] at this; exact this.ps1
        by_cases hlt : 0 < n
        · have i1 : ((0 : Nat) : Int) < (n : Int) := by omega
          have i2 : decide ((0 : Int) < (n : Int)) = true := decide_eq_true (by omega)
          go_wp2_with (first
            | (refine wpList_load_agg_when (by rfl) RPS (.tmp 3) rfl g3 0 P0 (by rfl) agg_RPS K3.out.at sP0 ?_))
          clear q1
          refine (CM.out wr AV.out).mono ?_
          rintro e u14 ⟨rfl, hb⟩
          replace HB := Lib.hid (HB.out.trans (Below.mono hb HB.out.size))
          replace HG := Lib.hid (HG.out.below hb)
          replace AV := Lib.hid (AV.out.ext hb)
          replace K3 := Lib.hid (K3.out.ext hb)
          replace EX := Lib.hid (EX.out.ext hb)
          replace K7 := Lib.hid (K7.out.ext hb)
          replace K22 := Lib.hid (K22.out.ext hb)
          clear hb
          go_wp2_with (first
            | (refine wpList_load_agg rfl PS (.tmp 7) rfl g7 0 PX (by rfl) agg_PS K7.out.at sPX ?_))
          refine (COl.out u14 EX.out).mono ?_
          rintro e u15 ⟨rfl, hb⟩
          replace HB := Lib.hid (HB.out.trans (Below.mono hb HB.out.size))
          replace HG := Lib.hid (HG.out.below hb)
          replace AV := Lib.hid (AV.out.ext hb)
          replace K3 := Lib.hid (K3.out.ext hb)
          replace EX := Lib.hid (EX.out.ext hb)
          replace K7 := Lib.hid (K7.out.ext hb)
          replace K22 := Lib.hid (K22.out.ext hb)
          clear hb
          go_wp2_with fail
          refine wp_region_gr [(0, true), (2, true), (1, false), (3, true), (4, true), (5, true), (6, true), (7, true), (8, true), (9, true), (10, true), (11, true), (12, true), (13, true), (14, true), (15, true), (18, true), (16, false), (17, true), (19, false), (20, true), (21, true), (22, true), (23, false), (24, true), (25, true)] (by kernel_rfl) (by kernel_rfl) (by kernel_rfl) (by kernel_rfl) (fun _ _ _ _ _ h => h) ?_
          replace HB := Lib.hid HB.out.drew
          replace HG := Lib.hid (HG.out.below (Ext.drew _))
          replace AV := Lib.hid (AV.out.ext (Ext.drew _))
          replace K3 := Lib.hid (K3.out.ext (Ext.drew _))
          replace EX := Lib.hid (EX.out.ext (Ext.drew _))
          replace K7 := Lib.hid (K7.out.ext (Ext.drew _))
          replace K22 := Lib.hid (K22.out.ext (Ext.drew _))
          generalize u15.drew = ud at *
          refine wpGr_read (o := ⟨_, _, _, _, _, _⟩) (v := .agg PX) rfl (by rfl) (fun w' hw' => rd_load_agg PS (.tmp 7) rfl g7 0 PX (by rfl) agg_PS (K7.out.ext hw').at sPX) ?_
          simp only [Act.put, List.setIfInBounds_toArray, List.set_cons_zero, List.set_cons_succ]
          refine wpGr_read (o := ⟨_, _, _, _, _, _⟩) (v := .agg (sc (fun _ => false))) rfl (by rfl) (fun w' hw' => rd_load_agg TS (.tmp 22) rfl g22 0 (sc (fun _ => false)) (by rfl) agg_TS (K22.out.ext hw').at (sc_size _)) ?_
          simp only [Act.put, List.setIfInBounds_toArray, List.set_cons_zero, List.set_cons_succ]
          refine wpGr_call (o := ⟨_, _, _, _, _, _⟩) rfl (by rfl) (fun K hK => ?_)
          try go_simp
          refine (CHe.out ud EX.out).mono ?_
          rintro e u16 ⟨rfl, hb⟩
          refine hK _ _ hb ?_
          clear hK K
          replace HB := Lib.hid (HB.out.trans (Below.mono hb HB.out.size))
          replace HG := Lib.hid (HG.out.below hb)
          replace AV := Lib.hid (AV.out.ext hb)
          replace K3 := Lib.hid (K3.out.ext hb)
          replace EX := Lib.hid (EX.out.ext hb)
          replace K7 := Lib.hid (K7.out.ext hb)
          replace K22 := Lib.hid (K22.out.ext hb)
          clear hb
          try simp only [Act.put, List.setIfInBounds_toArray, List.set_cons_zero, List.set_cons_succ]
          refine wpGr_read (o := ⟨_, _, _, _, _, _⟩) (v := .bool true) rfl (by rfl) (fun w' hw' => rd_eql_sc (.tmp 178) (.tmp 179) _ rfl (fun _ => false) (fun _ => false) (by rfl) (by rfl) rfl) ?_
          simp only [Act.put, List.setIfInBounds_toArray, List.set_cons_zero, List.set_cons_succ]
          iterate 11 (refine wpGr_read (o := ⟨_, _, _, _, _, _⟩) (v := ?_) rfl (by rfl) ?_ ?_; rotate_left; (intro w' hw'; go_simp; with_reducible rfl); simp only [Act.put, List.setIfInBounds_toArray, List.set_cons_zero, List.set_cons_succ])
          refine wpGr_read (o := ⟨_, _, _, _, _, _⟩) (v := .agg PX) rfl (by rfl) (fun w' hw' => rd_load_agg PS (.tmp 7) rfl g7 0 PX (by rfl) agg_PS (K7.out.ext hw').at sPX) ?_
          simp only [Act.put, List.setIfInBounds_toArray, List.set_cons_zero, List.set_cons_succ]
          refine wpGr_read (o := ⟨_, _, _, _, _, _⟩) (v := .agg P0) rfl (by rfl) (fun w' hw' => rd_load_agg RPS (.tmp 3) rfl g3 0 P0 (by rfl) agg_RPS (K3.out.ext hw').at sP0) ?_
          simp only [Act.put, List.setIfInBounds_toArray, List.set_cons_zero, List.set_cons_succ]
          refine wpGr_call (o := ⟨_, _, _, _, _, _⟩) rfl (by rfl) (fun K hK => ?_)
          try go_simp
          refine (CCk.out u16 EX.out).mono ?_
          rintro e u17 ⟨rfl, hb⟩
          refine hK _ _ hb ?_
          clear hK K
          replace HB := Lib.hid (HB.out.trans (Below.mono hb HB.out.size))
          replace HG := Lib.hid (HG.out.below hb)
          replace AV := Lib.hid (AV.out.ext hb)
          replace K3 := Lib.hid (K3.out.ext hb)
          replace EX := Lib.hid (EX.out.ext hb)
          replace K7 := Lib.hid (K7.out.ext hb)
          replace K22 := Lib.hid (K22.out.ext hb)
          clear hb
          try simp only [Act.put, List.setIfInBounds_toArray, List.set_cons_zero, List.set_cons_succ]
          (refine wpGr_read (o := ⟨_, _, _, _, _, _⟩) (v := ?_) rfl (by rfl) ?_ ?_; rotate_left; (intro w' hw'; go_simp; with_reducible rfl); simp only [Act.put, List.setIfInBounds_toArray, List.set_cons_zero, List.set_cons_succ])
          refine wpGr_call (o := ⟨_, _, _, _, _, _⟩) rfl (by rfl) (fun K hK => ?_)
          try go_simp
          refine (CM.out u17 AV.out).mono ?_
          rintro e u18 ⟨rfl, hb⟩
          refine hK _ _ hb ?_
          clear hK K
          replace HB := Lib.hid (HB.out.trans (Below.mono hb HB.out.size))
          replace HG := Lib.hid (HG.out.below hb)
          replace AV := Lib.hid (AV.out.ext hb)
          replace K3 := Lib.hid (K3.out.ext hb)
          replace EX := Lib.hid (EX.out.ext hb)
          replace K7 := Lib.hid (K7.out.ext hb)
          replace K22 := Lib.hid (K22.out.ext hb)
          clear hb
          try simp only [Act.put, List.setIfInBounds_toArray, List.set_cons_zero, List.set_cons_succ]
          iterate 3 (refine wpGr_read (o := ⟨_, _, _, _, _, _⟩) (v := ?_) rfl (by rfl) ?_ ?_; rotate_left; (intro w' hw'; go_simp; with_reducible rfl); simp only [Act.put, List.setIfInBounds_toArray, List.set_cons_zero, List.set_cons_succ])
          refine wpGr_call (o := ⟨_, _, _, _, _, _⟩) rfl (by rfl) (fun K hK => ?_)
          try go_simp
          refine (CS.out u18 HG.out).mono ?_
          rintro e u19 ⟨rfl, hb⟩
          refine hK _ _ hb ?_
          clear hK K
          replace HB := Lib.hid (HB.out.trans (Below.mono hb HB.out.size))
          replace HG := Lib.hid (HG.out.below hb)
          replace AV := Lib.hid (AV.out.ext hb)
          replace K3 := Lib.hid (K3.out.ext hb)
          replace EX := Lib.hid (EX.out.ext hb)
          replace K7 := Lib.hid (K7.out.ext hb)
          replace K22 := Lib.hid (K22.out.ext hb)
          clear hb
          try simp only [Act.put, List.setIfInBounds_toArray, List.set_cons_zero, List.set_cons_succ]
          iterate 2 (refine wpGr_read (o := ⟨_, _, _, _, _, _⟩) (v := ?_) rfl (by rfl) ?_ ?_; rotate_left; (intro w' hw'; go_simp; with_reducible rfl); simp only [Act.put, List.setIfInBounds_toArray, List.set_cons_zero, List.set_cons_succ])
          refine wpGr_done ?_
          go_wp2
          go_ret
          exact ⟨rfl, HB.out⟩
        · obtain rfl : n = 0 := by omega
          clear hlt
          go_wp2_with (first
            | (refine wpList_load_agg rfl PS (.tmp 7) rfl g7 0 PX (by rfl) agg_PS K7.out.at sPX ?_))
          refine (COl.out wr EX.out).mono ?_
          rintro e u14 ⟨rfl, hb⟩
          replace HB := Lib.hid (HB.out.trans (Below.mono hb HB.out.size))
          replace HG := Lib.hid (HG.out.below hb)
          replace AV := Lib.hid (AV.out.ext hb)
          replace K3 := Lib.hid (K3.out.ext hb)
          replace EX := Lib.hid (EX.out.ext hb)
          replace K7 := Lib.hid (K7.out.ext hb)
          replace K22 := Lib.hid (K22.out.ext hb)
          clear hb
          go_wp2_with fail
          refine wp_region_gr [(0, true), (2, true), (1, false), (3, true), (4, true), (5, true), (6, true), (7, true), (8, true), (9, true), (10, true), (11, true), (12, true), (13, true), (14, true), (15, true), (18, true), (16, false), (17, true), (19, false), (20, true), (21, true), (22, true), (23, false), (24, true), (25, true)] (by kernel_rfl) (by kernel_rfl) (by kernel_rfl) (by kernel_rfl) (fun _ _ _ _ _ h => h) ?_
          replace HB := Lib.hid HB.out.drew
          replace HG := Lib.hid (HG.out.below (Ext.drew _))
          replace AV := Lib.hid (AV.out.ext (Ext.drew _))
          replace K3 := Lib.hid (K3.out.ext (Ext.drew _))
          replace EX := Lib.hid (EX.out.ext (Ext.drew _))
          replace K7 := Lib.hid (K7.out.ext (Ext.drew _))
          replace K22 := Lib.hid (K22.out.ext (Ext.drew _))
          generalize u14.drew = ud at *
          refine wpGr_read (o := ⟨_, _, _, _, _, _⟩) (v := .agg PX) rfl (by rfl) (fun w' hw' => rd_load_agg PS (.tmp 7) rfl g7 0 PX (by rfl) agg_PS (K7.out.ext hw').at sPX) ?_
          simp only [Act.put, List.setIfInBounds_toArray, List.set_cons_zero, List.set_cons_succ]
          refine wpGr_read (o := ⟨_, _, _, _, _, _⟩) (v := .agg (sc (fun _ => false))) rfl (by rfl) (fun w' hw' => rd_load_agg TS (.tmp 22) rfl g22 0 (sc (fun _ => false)) (by rfl) agg_TS (K22.out.ext hw').at (sc_size _)) ?_
          simp only [Act.put, List.setIfInBounds_toArray, List.set_cons_zero, List.set_cons_succ]
          refine wpGr_call (o := ⟨_, _, _, _, _, _⟩) rfl (by rfl) (fun K hK => ?_)
          try go_simp
          refine (CHe.out ud EX.out).mono ?_
          rintro e u15 ⟨rfl, hb⟩
          refine hK _ _ hb ?_
          clear hK K
          replace HB := Lib.hid (HB.out.trans (Below.mono hb HB.out.size))
          replace HG := Lib.hid (HG.out.below hb)
          replace AV := Lib.hid (AV.out.ext hb)
          replace K3 := Lib.hid (K3.out.ext hb)
          replace EX := Lib.hid (EX.out.ext hb)
          replace K7 := Lib.hid (K7.out.ext hb)
          replace K22 := Lib.hid (K22.out.ext hb)
          clear hb
          try simp only [Act.put, List.setIfInBounds_toArray, List.set_cons_zero, List.set_cons_succ]
          refine wpGr_read (o := ⟨_, _, _, _, _, _⟩) (v := .bool true) rfl (by rfl) (fun w' hw' => rd_eql_sc (.tmp 178) (.tmp 179) _ rfl (fun _ => false) (fun _ => false) (by rfl) (by rfl) rfl) ?_
          simp only [Act.put, List.setIfInBounds_toArray, List.set_cons_zero, List.set_cons_succ]
          iterate 11 (refine wpGr_read (o := ⟨_, _, _, _, _, _⟩) (v := ?_) rfl (by rfl) ?_ ?_; rotate_left; (intro w' hw'; go_simp; with_reducible rfl); simp only [Act.put, List.setIfInBounds_toArray, List.set_cons_zero, List.set_cons_succ])
          refine wpGr_read (o := ⟨_, _, _, _, _, _⟩) (v := .agg PX) rfl (by rfl) (fun w' hw' => rd_load_agg PS (.tmp 7) rfl g7 0 PX (by rfl) agg_PS (K7.out.ext hw').at sPX) ?_
          simp only [Act.put, List.setIfInBounds_toArray, List.set_cons_zero, List.set_cons_succ]
          refine wpGr_read (o := ⟨_, _, _, _, _, _⟩) (v := .agg P0) rfl (by rfl) (fun w' hw' => rd_load_agg RPS (.tmp 3) rfl g3 0 P0 (by rfl) agg_RPS (K3.out.ext hw').at sP0) ?_
          simp only [Act.put, List.setIfInBounds_toArray, List.set_cons_zero, List.set_cons_succ]
          refine wpGr_call (o := ⟨_, _, _, _, _, _⟩) rfl (by rfl) (fun K hK => ?_)
          try go_simp
          refine (CCk.out u15 EX.out).mono ?_
          rintro e u16 ⟨rfl, hb⟩
          refine hK _ _ hb ?_
          clear hK K
          replace HB := Lib.hid (HB.out.trans (Below.mono hb HB.out.size))
          replace HG := Lib.hid (HG.out.below hb)
          replace AV := Lib.hid (AV.out.ext hb)
          replace K3 := Lib.hid (K3.out.ext hb)
          replace EX := Lib.hid (EX.out.ext hb)
          replace K7 := Lib.hid (K7.out.ext hb)
          replace K22 := Lib.hid (K22.out.ext hb)
          clear hb
          try simp only [Act.put, List.setIfInBounds_toArray, List.set_cons_zero, List.set_cons_succ]
          (refine wpGr_read (o := ⟨_, _, _, _, _, _⟩) (v := ?_) rfl (by rfl) ?_ ?_; rotate_left; (intro w' hw'; go_simp; with_reducible rfl); simp only [Act.put, List.setIfInBounds_toArray, List.set_cons_zero, List.set_cons_succ])
          refine wpGr_call (o := ⟨_, _, _, _, _, _⟩) rfl (by rfl) (fun K hK => ?_)
          try go_simp
          refine (CM.out u16 AV.out).mono ?_
          rintro e u17 ⟨rfl, hb⟩
          refine hK _ _ hb ?_
          clear hK K
          replace HB := Lib.hid (HB.out.trans (Below.mono hb HB.out.size))
          replace HG := Lib.hid (HG.out.below hb)
          replace AV := Lib.hid (AV.out.ext hb)
          replace K3 := Lib.hid (K3.out.ext hb)
          replace EX := Lib.hid (EX.out.ext hb)
          replace K7 := Lib.hid (K7.out.ext hb)
          replace K22 := Lib.hid (K22.out.ext hb)
          clear hb
          try simp only [Act.put, List.setIfInBounds_toArray, List.set_cons_zero, List.set_cons_succ]
          iterate 3 (refine wpGr_read (o := ⟨_, _, _, _, _, _⟩) (v := ?_) rfl (by rfl) ?_ ?_; rotate_left; (intro w' hw'; go_simp; with_reducible rfl); simp only [Act.put, List.setIfInBounds_toArray, List.set_cons_zero, List.set_cons_succ])
          refine wpGr_call (o := ⟨_, _, _, _, _, _⟩) rfl (by rfl) (fun K hK => ?_)
          try go_simp
          refine (CS.out u17 HG.out).mono ?_
          rintro e u18 ⟨rfl, hb⟩
          refine hK _ _ hb ?_
          clear hK K
          replace HB := Lib.hid (HB.out.trans (Below.mono hb HB.out.size))
          replace HG := Lib.hid (HG.out.below hb)
          replace AV := Lib.hid (AV.out.ext hb)
          replace K3 := Lib.hid (K3.out.ext hb)
          replace EX := Lib.hid (EX.out.ext hb)
          replace K7 := Lib.hid (K7.out.ext hb)
          replace K22 := Lib.hid (K22.out.ext hb)
          clear hb
          try simp only [Act.put, List.setIfInBounds_toArray, List.set_cons_zero, List.set_cons_succ]
          iterate 2 (refine wpGr_read (o := ⟨_, _, _, _, _, _⟩) (v := ?_) rfl (by rfl) ?_ ?_; rotate_left; (intro w' hw'; go_simp; with_reducible rfl); simp only [Act.put, List.setIfInBounds_toArray, List.set_cons_zero, List.set_cons_succ])
          refine wpGr_done ?_
          go_wp2
          go_ret
          exact ⟨rfl, HB.out⟩
    | true =>
      rw [hmy, if_pos rfl] at mE hdT olTT
      rw [hmy] at CM
      rw [mE, errC_0] at CCk
      rw [hmy, Bool.true_and] at olBB
      obtain ⟨HR, hHR⟩ : ∃ F, heldR l = F := ⟨_, rfl⟩
      rw [hHR] at hdT
      rw [hdT] at CHe
      obtain ⟨OB, hOB⟩ : ∃ B, decide (0 < n) = B := ⟨_, rfl⟩
      rw [hOB] at olBB
      rw [olTT, olBB] at COl
      have HHR := Lib.hid hHR
      have HOB := Lib.hid hOB
      clear mE hdT olTT olBB hmy hHR hOB
      go_wp2_with (first
        | (show wpList _ _ _ (⟨some 22, _, _, _, _, _⟩ :: _) _ _; refine wpList_alloc_arr rfl TS rfl arrz_TS ?_; intro g22 w22 hg22 hk22 hb22))
      have K22 := Lib.hid hk22
      have Hb := Lib.hid hb22
      have Hg22 := Lib.hid hg22
      clear hg22 hk22 hb22
      go_loopw [23, 24, 25] (fun t23 t24 i wr => ∃ (k least : Nat) (any : Bool), t23 = .int .u64 least ∧ t24 = .bool any ∧ i = .int .i64 k ∧ k ≤ n ∧ Hid (Blk wr g22 TS (sc (heldR (l.take k)))) ∧ Hid ((k = 0 → any = false ∧ least = 0) ∧ (0 < k → any = true ∧ oldR least (l.drop k) = TL)) ∧ Hid (Below u13.heap.size u13 wr)) (fun _ _ i _ => n - (intOf i).toNat)
      case atStart => exact ⟨0, 0, false, rfl, rfl, rfl, by omega, by rw [held_zero]; exact K22.out, ⟨fun _ => ⟨rfl, rfl⟩, fun h => by omega⟩, Hb.out⟩
      case round =>
        obtain ⟨k, least, any, rfl, rfl, rfl, hk, hK22, hO, hE⟩ := hrel
        clear K22 Hb
        have K22 := hK22
        clear hK22
        have hb := hE.out
        replace HB := Lib.hid (HB.out.trans (Below.mono hb HB.out.size))
        replace HG := Lib.hid (HG.out.below hb)
        replace AV := Lib.hid (AV.out.ext hb)
        replace K3 := Lib.hid (K3.out.ext hb)
        replace EX := Lib.hid (EX.out.ext hb)
        replace K7 := Lib.hid (K7.out.ext hb)
        clear hb
        have q1 : wr.cell? ⟨g3, 1, none⟩ = some (.slice a n c) := by have := K3.out; rw [← HP0.out] at this; exact this.ps1
        by_cases hlt : k < n
        · have i1 : (k : Int) < (n : Int) := by omega
          go_wp2_with (first
            | (refine wpList_load_agg_when (by rfl) RPS (.tmp 3) rfl g3 0 P0 (by rfl) agg_RPS K3.out.at sP0 ?_))
          clear q1
          have hE2 := hE
          refine (CM.out wr AV.out).mono ?_
          rintro e u14 ⟨rfl, hb⟩
          have HE : Hid (Below u13.heap.size u13 u14) := hE.out.trans (Below.mono hb hE.out.size)
          replace AV := Lib.hid (AV.out.ext hb)
          replace K3 := Lib.hid (K3.out.ext hb)
          replace K22 := Lib.hid (K22.out.ext hb)
          clear hb hE hE2 HB HG K7 EX
          obtain ⟨a', c', hac, hpa, _, _⟩ := AV.out
          obtain ⟨g, o, rfl, hcell⟩ := hpa.pin (by rw [HN.out]; omega)
          rw [HN.out] at hac
          cases hac
          have Hc := Lib.hid (hcell k (by rw [HN.out]; exact hlt))
          have hst := held_take l k (by rw [HN.out]; exact hlt)
          obtain ⟨F2, hF2⟩ : ∃ F2, heldR (l.take (k + 1)) = F2 := ⟨_, rfl⟩
          rw [hF2] at hst
          have HF2 := Lib.hid hF2
          generalize heldR (l.take k) = F1 at *
          have hdr : 0 < k → ∀ x, oldR x (l.drop k) = oldR (min x (pn l k).sq) (l.drop (k + 1)) := fun _ x => oldR_drop x l k (by rw [HN.out]; exact hlt)
          have hfi : k = 0 → TL = oldR (pn l k).sq (l.drop (k + 1)) := fun h => by subst h; rw [← HTL.out, oldT_first l (by rw [HN.out]; exact hlt)]
          generalize pn l k = y at *
          obtain ⟨I, S, F⟩ := y
          dsimp only at hst hdr hfi
          have HD := Lib.hid (And.intro hdr hfi)
          have CE := Lib.hid (fun w => either_any F1 F w)
          rw [hst] at CE
          clear hcell hst hF2 hpa hdr hfi
          go_wp2_with fail
          refine wp_region_gt (F := fun i => i = g22) [(1, true), (2, true), (3, true), (4, true), (5, true), (6, true), (0, false), (7, false), (8, false)] (by kernel_rfl) (by kernel_rfl) (by kernel_rfl) (by kernel_rfl) (fun _ _ _ _ _ h => h) ?_
          replace HE : Hid (Below u13.heap.size u13 u14.drew) := HE.out.drew
          replace K3 : Hid (Blk u14.drew g3 RPS P0) := K3.out
          replace K22 : Hid (Blk u14.drew g22 TS (sc F1)) := K22.out
          replace Hc : Hid (At u14.drew g (o + k * 18) (pv ⟨I, S, F⟩)) := Hc.out
          generalize u14.drew = ud at *
          have gg : g3 ≠ g22 ∧ g ≠ g22 := by
            have h1 := HL3.out
            have h2 := Hg22.out
            have h3 := HLg.out (by omega) g o rfl
            exact ⟨by omega, by omega⟩
          have r1 : ∀ w', Turn (fun i => i = g22) ud w' → w'.cell? ⟨g3, 1, none⟩ = some (.slice (some ⟨g, o, none⟩) n c) := fun w' ht => by have := K3.out.turn ht gg.1; rw [← HP0.out] at this; exact this.ps1
          have r2 := Lib.hid (fun w' (ht : Turn (fun i => i = g22) ud w') => (show At w' g (o + k * 18) (pv ⟨I, S, F⟩) from fun j x hx => by have := Hc.out j x hx; rw [ht.cell (p := ⟨g, o + k * 18 + j, none⟩) (block_lt_of_cell this) gg.2]; exact this).pages)
          iterate 5 (refine wpGt_read (o := ⟨_, _, _, _, _, _⟩) (v := ?_) rfl (by rfl) ?_ ?_; rotate_left; (intro w' hw'; go_simp; with_reducible rfl); simp only [Act.put, List.setIfInBounds_toArray, List.set_cons_zero, List.set_cons_succ])
          refine wpGt_read (o := ⟨_, _, _, _, _, _⟩) (v := .agg (sc F)) rfl (by rfl) (fun w' hw' => rd_load_agg TW (.tmp 151) rfl g (o + k * 18 + 2) (sc F) (by rfl) agg_TW (r2.out w' hw') (sc_size _)) ?_
          simp only [Act.put, List.setIfInBounds_toArray, List.set_cons_zero, List.set_cons_succ]
          refine wpGt_call (o := ⟨_, _, _, _, _, _⟩) rfl (by rfl) (fun K hK => ?_)
          refine wp_load_agg TS (.tmp 22) rfl g22 0 (sc F1) (by rfl) agg_TS K22.out.at (sc_size _) ?_
          refine hK _ _ (Turn.refl _ _) ?_
          clear hK K
          simp only [Act.put, List.setIfInBounds_toArray, List.set_cons_zero, List.set_cons_succ]
          refine wpGt_call (o := ⟨_, _, _, _, _, _⟩) rfl (by rfl) (fun K hK => ?_)
          try go_simp
          refine (CE.out ud).mono ?_
          rintro e ue ⟨rfl, hb⟩
          refine hK _ _ (Turn.ofBelow hb) ?_
          clear hK K r1 r2
          replace HE : Hid (Below u13.heap.size u13 ue) := HE.out.trans (Below.mono hb HE.out.size)
          replace K3 := Lib.hid (K3.out.ext hb)
          replace K22 := Lib.hid (K22.out.ext hb)
          replace Hc := Lib.hid (Hc.out.ext hb)
          clear hb CE
          try simp only [Act.put, List.setIfInBounds_toArray, List.set_cons_zero, List.set_cons_succ]
          refine wpGt_call (o := ⟨_, _, _, _, _, _⟩) rfl (by rfl) (fun K hK => ?_)
          refine wp_store_agg TS (.tmp 22) (.tmp 153) rfl g22 (sc F2) _ TS (by rfl) (by rfl) agg_TS K22.out (sc_size _) (sc_size _) (sc_one _) (fun wS hkS htS hsS => ?_)
          refine hK _ _ htS ?_
          clear hK K
          have HES : Hid (Below u13.heap.size u13 wS) := HE.out.trans (htS.below HE.out.size (fun i hi => by subst hi; exact Hg22.out))
          have z1 : wS.cell? ⟨g3, 1, none⟩ = some (.slice (some ⟨g, o, none⟩) n c) := by have := K3.out.turn htS gg.1; rw [← HP0.out] at this; exact this.ps1
          have z2 : wS.cell? ⟨g, o + k * 18 + 1, none⟩ = some (.int .u64 (S : Nat)) := by rw [htS.cell (p := ⟨g, o + k * 18 + 1, none⟩) (block_lt_of_cell Hc.out.sq) gg.2]; exact Hc.out.sq
          have KS2 : Hid (Blk wS g22 TS (sc (heldR (l.take (k + 1))))) := by rw [HF2.out]; exact hkS
          clear htS hsS hkS HE K3 K22 Hc gg
          refine wpGt_done ?_
          simp only [Act.put]
          rcases Nat.eq_zero_or_pos k with hk0 | hk0
          · obtain ⟨rfl, rfl⟩ := hO.out.1 hk0
            have e1 := (HD.out.2 hk0).symm
            have HO2 : Hid ((k + 1 = 0 → true = false ∧ S = 0) ∧ (0 < k + 1 → true = true ∧ oldR S (l.drop (k + 1)) = TL)) := ⟨fun h => by omega, fun _ => ⟨rfl, e1⟩⟩
            clear hO HD e1 hk0
            go_wp2
            go_roundw
            case rel => exact ⟨k + 1, S, true, rfl, rfl, by go_num, by omega, KS2, HO2, HES⟩
            case measure => simp [intOf]; omega
          · obtain ⟨rfl, hO2⟩ := hO.out.2 hk0
            rw [HD.out.1 hk0] at hO2
            by_cases hS : S < least
            · have d3 : decide ((S : Int) < (least : Int)) = true := decide_eq_true (by omega)
              rw [Nat.min_eq_right (by omega)] at hO2
              have HO2 : Hid ((k + 1 = 0 → true = false ∧ S = 0) ∧ (0 < k + 1 → true = true ∧ oldR S (l.drop (k + 1)) = TL)) := ⟨fun h => by omega, fun _ => ⟨rfl, hO2⟩⟩
              clear hO HD hO2
              go_wp2
              go_roundw
              case rel => exact ⟨k + 1, S, true, rfl, rfl, by go_num, by omega, KS2, HO2, HES⟩
              case measure => simp [intOf]; omega
            · have d3 : decide ((S : Int) < (least : Int)) = false := decide_eq_false (by omega)
              rw [Nat.min_eq_left (by omega)] at hO2
              have HO2 : Hid ((k + 1 = 0 → true = false ∧ least = 0) ∧ (0 < k + 1 → true = true ∧ oldR least (l.drop (k + 1)) = TL)) := ⟨fun h => by omega, fun _ => ⟨rfl, hO2⟩⟩
              clear hO HD hO2
              go_wp2
              go_roundw
              case rel => exact ⟨k + 1, least, true, rfl, rfl, by go_num, by omega, KS2, HO2, HES⟩
              case measure => simp [intOf]; omega
        · obtain rfl : k = n := by omega
          rw [List.take_of_length_le (show l.length ≤ k by rw [HN.out]; exact Nat.le_refl _), HHR.out] at K22
          obtain ⟨rfl, rfl⟩ : any = OB ∧ least = TL := by
            rcases Nat.eq_zero_or_pos k with hk0 | hk0
            · obtain ⟨h1, h2⟩ := hO.out.1 hk0
              have : l = [] := List.eq_nil_of_length_eq_zero (by rw [HN.out]; exact hk0)
              exact ⟨by rw [h1, ← HOB.out, hk0]; rfl, by rw [h2, ← HTL.out, this]; rfl⟩
            · obtain ⟨h1, h2⟩ := hO.out.2 hk0
              rw [oldR_end _ _ _ (show l.length ≤ k by rw [HN.out]; exact Nat.le_refl _)] at h2
              exact ⟨by rw [h1, ← HOB.out, decide_eq_true hk0], h2⟩
          clear hO hE hlt HOB HTL HHR
          go_wp2_with (first
            | (refine wpList_load_agg rfl PS (.tmp 7) rfl g7 0 PX (by rfl) agg_PS K7.out.at sPX ?_))
          refine (COl.out wr EX.out).mono ?_
          rintro e u14 ⟨rfl, hb⟩
          replace HB := Lib.hid (HB.out.trans (Below.mono hb HB.out.size))
          replace HG := Lib.hid (HG.out.below hb)
          replace AV := Lib.hid (AV.out.ext hb)
          replace K3 := Lib.hid (K3.out.ext hb)
          replace EX := Lib.hid (EX.out.ext hb)
          replace K7 := Lib.hid (K7.out.ext hb)
          replace K22 := Lib.hid (K22.out.ext hb)
          clear hb
          go_wp2_with fail
          refine wp_region_gr [(0, true), (2, true), (1, false), (3, true), (4, true), (5, true), (6, true), (7, true), (8, true), (9, true), (10, true), (11, true), (12, true), (13, true), (14, true), (15, true), (18, true), (16, false), (17, true), (19, false), (20, true), (21, true), (22, true), (23, false), (24, true), (25, true)] (by kernel_rfl) (by kernel_rfl) (by kernel_rfl) (by kernel_rfl) (fun _ _ _ _ _ h => h) ?_
          replace HB := Lib.hid HB.out.drew
          replace HG := Lib.hid (HG.out.below (Ext.drew _))
          replace AV := Lib.hid (AV.out.ext (Ext.drew _))
          replace K3 := Lib.hid (K3.out.ext (Ext.drew _))
          replace EX := Lib.hid (EX.out.ext (Ext.drew _))
          replace K7 := Lib.hid (K7.out.ext (Ext.drew _))
          replace K22 := Lib.hid (K22.out.ext (Ext.drew _))
          generalize u14.drew = ud at *
          refine wpGr_read (o := ⟨_, _, _, _, _, _⟩) (v := .agg PX) rfl (by rfl) (fun w' hw' => rd_load_agg PS (.tmp 7) rfl g7 0 PX (by rfl) agg_PS (K7.out.ext hw').at sPX) ?_
          simp only [Act.put, List.setIfInBounds_toArray, List.set_cons_zero, List.set_cons_succ]
          refine wpGr_read (o := ⟨_, _, _, _, _, _⟩) (v := .agg (sc HR)) rfl (by rfl) (fun w' hw' => rd_load_agg TS (.tmp 22) rfl g22 0 (sc HR) (by rfl) agg_TS (K22.out.ext hw').at (sc_size _)) ?_
          simp only [Act.put, List.setIfInBounds_toArray, List.set_cons_zero, List.set_cons_succ]
          refine wpGr_call (o := ⟨_, _, _, _, _, _⟩) rfl (by rfl) (fun K hK => ?_)
          try go_simp
          refine (CHe.out ud EX.out).mono ?_
          rintro e u15 ⟨rfl, hb⟩
          refine hK _ _ hb ?_
          clear hK K
          replace HB := Lib.hid (HB.out.trans (Below.mono hb HB.out.size))
          replace HG := Lib.hid (HG.out.below hb)
          replace AV := Lib.hid (AV.out.ext hb)
          replace K3 := Lib.hid (K3.out.ext hb)
          replace EX := Lib.hid (EX.out.ext hb)
          replace K7 := Lib.hid (K7.out.ext hb)
          replace K22 := Lib.hid (K22.out.ext hb)
          clear hb
          try simp only [Act.put, List.setIfInBounds_toArray, List.set_cons_zero, List.set_cons_succ]
          refine wpGr_read (o := ⟨_, _, _, _, _, _⟩) (v := .bool true) rfl (by rfl) (fun w' hw' => rd_eql_sc (.tmp 178) (.tmp 179) _ rfl HR HR (by rfl) (by rfl) rfl) ?_
          simp only [Act.put, List.setIfInBounds_toArray, List.set_cons_zero, List.set_cons_succ]
          iterate 11 (refine wpGr_read (o := ⟨_, _, _, _, _, _⟩) (v := ?_) rfl (by rfl) ?_ ?_; rotate_left; (intro w' hw'; go_simp; with_reducible rfl); simp only [Act.put, List.setIfInBounds_toArray, List.set_cons_zero, List.set_cons_succ])
          refine wpGr_read (o := ⟨_, _, _, _, _, _⟩) (v := .agg PX) rfl (by rfl) (fun w' hw' => rd_load_agg PS (.tmp 7) rfl g7 0 PX (by rfl) agg_PS (K7.out.ext hw').at sPX) ?_
          simp only [Act.put, List.setIfInBounds_toArray, List.set_cons_zero, List.set_cons_succ]
          refine wpGr_read (o := ⟨_, _, _, _, _, _⟩) (v := .agg P0) rfl (by rfl) (fun w' hw' => rd_load_agg RPS (.tmp 3) rfl g3 0 P0 (by rfl) agg_RPS (K3.out.ext hw').at sP0) ?_
          simp only [Act.put, List.setIfInBounds_toArray, List.set_cons_zero, List.set_cons_succ]
          refine wpGr_call (o := ⟨_, _, _, _, _, _⟩) rfl (by rfl) (fun K hK => ?_)
          try go_simp
          refine (CCk.out u15 EX.out).mono ?_
          rintro e u16 ⟨rfl, hb⟩
          refine hK _ _ hb ?_
          clear hK K
          replace HB := Lib.hid (HB.out.trans (Below.mono hb HB.out.size))
          replace HG := Lib.hid (HG.out.below hb)
          replace AV := Lib.hid (AV.out.ext hb)
          replace K3 := Lib.hid (K3.out.ext hb)
          replace EX := Lib.hid (EX.out.ext hb)
          replace K7 := Lib.hid (K7.out.ext hb)
          replace K22 := Lib.hid (K22.out.ext hb)
          clear hb
          try simp only [Act.put, List.setIfInBounds_toArray, List.set_cons_zero, List.set_cons_succ]
          (refine wpGr_read (o := ⟨_, _, _, _, _, _⟩) (v := ?_) rfl (by rfl) ?_ ?_; rotate_left; (intro w' hw'; go_simp; with_reducible rfl); simp only [Act.put, List.setIfInBounds_toArray, List.set_cons_zero, List.set_cons_succ])
          refine wpGr_call (o := ⟨_, _, _, _, _, _⟩) rfl (by rfl) (fun K hK => ?_)
          try go_simp
          refine (CM.out u16 AV.out).mono ?_
          rintro e u17 ⟨rfl, hb⟩
          refine hK _ _ hb ?_
          clear hK K
          replace HB := Lib.hid (HB.out.trans (Below.mono hb HB.out.size))
          replace HG := Lib.hid (HG.out.below hb)
          replace AV := Lib.hid (AV.out.ext hb)
          replace K3 := Lib.hid (K3.out.ext hb)
          replace EX := Lib.hid (EX.out.ext hb)
          replace K7 := Lib.hid (K7.out.ext hb)
          replace K22 := Lib.hid (K22.out.ext hb)
          clear hb
          try simp only [Act.put, List.setIfInBounds_toArray, List.set_cons_zero, List.set_cons_succ]
          iterate 3 (refine wpGr_read (o := ⟨_, _, _, _, _, _⟩) (v := ?_) rfl (by rfl) ?_ ?_; rotate_left; (intro w' hw'; go_simp; with_reducible rfl); simp only [Act.put, List.setIfInBounds_toArray, List.set_cons_zero, List.set_cons_succ])
          refine wpGr_call (o := ⟨_, _, _, _, _, _⟩) rfl (by rfl) (fun K hK => ?_)
          try go_simp
          refine (CS.out u17 HG.out).mono ?_
          rintro e u18 ⟨rfl, hb⟩
          refine hK _ _ hb ?_
          clear hK K
          replace HB := Lib.hid (HB.out.trans (Below.mono hb HB.out.size))
          replace HG := Lib.hid (HG.out.below hb)
          replace AV := Lib.hid (AV.out.ext hb)
          replace K3 := Lib.hid (K3.out.ext hb)
          replace EX := Lib.hid (EX.out.ext hb)
          replace K7 := Lib.hid (K7.out.ext hb)
          replace K22 := Lib.hid (K22.out.ext hb)
          clear hb
          try simp only [Act.put, List.setIfInBounds_toArray, List.set_cons_zero, List.set_cons_succ]
          iterate 2 (refine wpGr_read (o := ⟨_, _, _, _, _, _⟩) (v := ?_) rfl (by rfl) ?_ ?_; rotate_left; (intro w' hw'; go_simp; with_reducible rfl); simp only [Act.put, List.setIfInBounds_toArray, List.set_cons_zero, List.set_cons_succ])
          refine wpGr_done ?_
          go_wp2
          go_ret
          exact ⟨rfl, HB.out⟩
end Go.Proofs.YtdgcghknfhhkiaaDoor
