/-
  HeadAlone: the law's walk (mkhead19.py).
-/
import Derived.Test.YtofbomcimicccaaDoorSure19Z
import Derived.Test.YtofbomcimicccaaDoorHdTwoZ
namespace Go.Proofs.YtofbomcimicccaaDoor
open Go Go.RowKit

theorem blk_lt_ne {w : World} {b g : Nat} {t t' : TypeId} {cs ds : Array Value} (h : Blk w b t cs) (hr : Blk w g t' ds) (ht : t ≠ t') : b ≠ g := fun e => by
  subst e
  have h1 : w.heap[b]? = some (.cells cs t (0, 0)) := h
  have h2 : w.heap[b]? = some (.cells ds t' (0, 0)) := hr
  rw [h1] at h2
  cases h2
  exact ht rfl
theorem row_blk_ne {w : World} {b g E : Nat} {t : TypeId} {cs : Array Value} {l : List Nat} (hr : Row w g E l) (h : Blk w b t cs) (ht : t ≠ E) : g ≠ b := fun e => by
  subst e
  have h1 : w.heap[g]? = some (.cells cs t (0, 0)) := h
  have h2 : w.heap[g]? = some (.cells (bv l).toArray E (0, 0)) := hr
  rw [h1] at h2
  cases h2
  exact ht rfl
set_option maxRecDepth 100000 in
set_option maxHeartbeats 4000000 in
theorem alone_any (h : Hd) (hf : h.Fit) (a1 : Option Addr) (l1 : List Nat) (n1 c1 : Nat) (w : World) (hn1 : l1.length = n1) (h81 : B8 l1) (hs1 : Src w a1 l1) (hlc1 : n1 ≤ c1) (hr1 : c1 ≤ 140737488355328) (hg : Hg w) (hT : WorthIn w) (hM : MostIn w) :
    Calls Tryd.prog 5 #[.agg (hv h), .slice a1 n1 c1] w fun e w' => e = .returned (.bool true) ∧ Below w.heap.size w w' := by
  have HG := Lib.hid hg
  have HW := Lib.hid hT
  have HM := Lib.hid hM
  have HB := Lib.hid (Below.refl w.heap.size w)
  have EA : Hid (BA w (.slice a1 n1 c1) l1) := ⟨⟨a1, c1, by rw [hn1], hs1, by rw [hn1]; exact hlc1, hr1⟩, h81⟩
  have CSu := Lib.hid (fun w hg hT hM => hsure_any w hg hT hM)
  have HF := Lib.hid hf
  have CC := Lib.hid (fun w hM => check_any h HF.out w hM)
  have n19 : n1 ≤ 9223372036854775807 := by omega
  clear hg hT hM hf hs1 h81 hn1 hlc1 hr1
  by_cases hm1 : HMay h
  · skip
    have CE := Lib.hid (fun w hM hT => enc_yes h hm1 w hM hT)
    have PX := Lib.hid (And.intro (hpage_len hm1) (hpage_b8 hm1))
    clear CC
    by_cases h1 : 600 < n1
    · have d1 : decide ((600 : Int) < (n1 : Int)) = true := decide_eq_true (by omega)
      clear hm1 h1
      go_enter Tryd.func5, Tryd.ntmps5
      go_wp2_with (first
        | (refine wpList_box_arr rfl RHT (.tmp 0) rfl (hv h) (by rfl) ?_; intro g2 w2 hg2 hk2 hb2; replace HB := Lib.hid (HB.out.trans (Below.mono hb2 HB.out.size)); have K2 := Lib.hid hk2; clear hg2 hk2 hb2)
        | (refine wpList_load_agg rfl RHT (.tmp 2) rfl g2 0 (hv h) (by rfl) agg_RHT K2.out.at (hv_size _) ?_)
        | (show wpList _ _ _ (⟨some 5, _, _, _, _, _⟩ :: _) _ _; refine wpList_alloc_arr rfl HT rfl arrz_HT ?_; intro g5 wa5 hg5 hk5 hb5)
        | (refine wpList_store_agg rfl HT (.tmp 5) (.tmp 16) rfl g5 (hv h) _ HT (by rfl) (by rfl) agg_HT hk5 (hv_size _) (hv_size _) (hv_one _) ?_; intro wv5 hj5 ht5 hs5; have bb5 : Ext w2 wv5 := hb5.trans (ht5.below hb5.size (fun i hi => by subst hi; exact hg5)); replace HB := Lib.hid (HB.out.trans (Below.mono bb5 HB.out.size)); have K5 := Lib.hid hj5; have Q5 := Lib.hid hg5; clear hg5 hk5 hb5 hj5 ht5 hs5 bb5)
        | (refine wpList_load_agg rfl HT (.tmp 5) rfl g5 0 (hv h) (by rfl) agg_HT K5.out.at (hv_size _) ?_))
      refine (CE.out wv5 (HM.out.below HB.out) (HW.out.below HB.out)).mono ?_
      rintro e u1 ⟨ga, rfl, hgz, hr, hb⟩
      have Hga : Hid (w.heap.size ≤ ga) := by show _ ≤ _; have := HB.out.size; omega
      replace HB := Lib.hid (HB.out.trans (Below.mono hb HB.out.size))
      replace K5 := Lib.hid (K5.out.ext hb)
      have RA := Lib.hid hr
      clear hb hr hgz
      go_wp2_with fail
      refine (CSu.out u1 (HG.out.below HB.out) (HW.out.below HB.out) (HM.out.below HB.out)).mono ?_
      rintro e u2 ⟨rfl, hb⟩
      replace HB := Lib.hid (HB.out.trans (Below.mono hb HB.out.size))
      replace K5 := Lib.hid (K5.out.ext hb)
      replace RA := Lib.hid (RA.out.ext hb)
      clear hb
      go_wp2
      go_ret
      exact ⟨rfl, HB.out⟩
    · have d1 : decide ((600 : Int) < (n1 : Int)) = false := decide_eq_false (by omega)
      have CD := Lib.hid (fun v w e hT hM => dec_ba v l1 w e hT hM)
      have CN := Lib.hid (fun w hg => num_any (errS 16) 16 w (errS_is 16) hg)
      have hsx := hm1.fit.s
      have CSl := Lib.hid (fun w => slot_any h.s w hsx)
      have HmX := Lib.hid hm1
      obtain ⟨X, hX⟩ : ∃ X, (hdec l1).1 = X := ⟨_, rfl⟩
      obtain ⟨N, hN⟩ : ∃ N, (hdec l1).2 = N := ⟨_, rfl⟩
      have HN := Lib.hid hN
      rw [hX, hN] at CD
      rw [errS_16] at CN
      clear hsx h1 hX hN hm1
      rcases (show h.s % 2 = 0 ∨ h.s % 2 = 1 by omega) with hp | hp
      · rw [hp] at CSl
        have HP := Lib.hid hp
        clear hp
        have CP1 := Lib.hid (fun u v w e e' hT hM => pick_ba u v (hpage h) l1 w e e' hT hM)
        have HQ : Hid (N ≠ 0 → hpick (hpage h) l1 = (h, 0)) := fun hne => hpick_left HmX.out HP.out (by rw [HN.out]; exact hne)
        obtain ⟨R, hR⟩ : ∃ R, hpick (hpage h) l1 = R := ⟨_, rfl⟩
        rw [hR] at CP1 HQ
        clear hR
        have CP2 := Lib.hid (fun u v w e e' hT hM => pick_ba u v [] (hpage h) w e e' hT hM)
        rw [hpick_wrong1 HmX.out HP.out hdec_nil] at CP2
        dsimp only at CP2
        rw [errS_16] at CP2
        obtain ⟨R1, R2⟩ := R
        dsimp only at CP1
        go_enter Tryd.func5, Tryd.ntmps5
        go_wp2_with (first
          | (refine wpList_box_arr rfl RHT (.tmp 0) rfl (hv h) (by rfl) ?_; intro g2 w2 hg2 hk2 hb2; replace HB := Lib.hid (HB.out.trans (Below.mono hb2 HB.out.size)); have K2 := Lib.hid hk2; clear hg2 hk2 hb2)
          | (refine wpList_load_agg rfl RHT (.tmp 2) rfl g2 0 (hv h) (by rfl) agg_RHT K2.out.at (hv_size _) ?_)
          | (show wpList _ _ _ (⟨some 5, _, _, _, _, _⟩ :: _) _ _; refine wpList_alloc_arr rfl HT rfl arrz_HT ?_; intro g5 wa5 hg5 hk5 hb5)
          | (refine wpList_store_agg rfl HT (.tmp 5) (.tmp 16) rfl g5 (hv h) _ HT (by rfl) (by rfl) agg_HT hk5 (hv_size _) (hv_size _) (hv_one _) ?_; intro wv5 hj5 ht5 hs5; have bb5 : Ext w2 wv5 := hb5.trans (ht5.below hb5.size (fun i hi => by subst hi; exact hg5)); replace HB := Lib.hid (HB.out.trans (Below.mono bb5 HB.out.size)); have K5 := Lib.hid hj5; have Q5 := Lib.hid hg5; clear hg5 hk5 hb5 hj5 ht5 hs5 bb5)
          | (refine wpList_load_agg rfl HT (.tmp 5) rfl g5 0 (hv h) (by rfl) agg_HT K5.out.at (hv_size _) ?_))
        refine (CE.out wv5 (HM.out.below HB.out) (HW.out.below HB.out)).mono ?_
        rintro e u1 ⟨ga, rfl, hgz, hr, hb⟩
        have Hga : Hid (w.heap.size ≤ ga) := by show _ ≤ _; have := HB.out.size; omega
        replace HB := Lib.hid (HB.out.trans (Below.mono hb HB.out.size))
        replace K5 := Lib.hid (K5.out.ext hb)
        have RA := Lib.hid hr
        clear hb hr hgz
        go_wp2_with fail
        refine (CD.out _ u1 (EA.out.below HB.out (Nat.le_refl _)) (HW.out.below HB.out) (HM.out.below HB.out)).mono ?_
        rintro e u2 ⟨rfl, hb⟩
        replace HB := Lib.hid (HB.out.trans (Below.mono hb HB.out.size))
        replace K5 := Lib.hid (K5.out.ext hb)
        replace RA := Lib.hid (RA.out.ext hb)
        clear hb
        go_wp2_with (first
          | (show wpList _ _ _ (⟨some 8, _, _, _, _, _⟩ :: _) _ _; refine wpList_alloc_arr rfl HT rfl arrz_HT ?_; intro g8 wa8 hg8 hk8 hb8)
          | (refine wpList_store_agg rfl HT (.tmp 8) (.tmp 42) rfl g8 (hv X) _ HT (by rfl) (by rfl) agg_HT hk8 (hv_size _) (hv_size _) (hv_one _) ?_; intro wv8 hj8 ht8 hs8; have bb8 : Ext u2 wv8 := hb8.trans (ht8.below hb8.size (fun i hi => by subst hi; exact hg8)); replace HB := Lib.hid (HB.out.trans (Below.mono bb8 HB.out.size)); replace K5 := Lib.hid (K5.out.ext bb8); replace RA := Lib.hid (RA.out.ext bb8); have K8 := Lib.hid hj8; have Q8 := Lib.hid hg8; clear hg8 hk8 hb8 hj8 ht8 hs8 bb8)
          | (refine wpList_build rfl T2 _ rfl _ (by rfl) #[.slice a1 n1 c1, .slice a1 n1 c1] (build_two _ _ _ _ _ _ _) ?_)
          | (show wpList _ _ _ (⟨some 10, _, _, _, _, _⟩ :: _) _ _; refine wpList_alloc_arr rfl T2 rfl arrz_T2 ?_; intro g10 wa10 hg10 hk10 hb10; have HZ10x : w.heap.size ≤ g10 := Nat.le_trans HB.out.size hg10)
          | (refine wpList_store_agg rfl T2 (.tmp 10) (.tmp 46) rfl g10 #[.slice a1 n1 c1, .slice a1 n1 c1] _ T2 (by rfl) (by rfl) agg_T2 hk10 rfl rfl (by simp [Value.oneCell']) ?_; intro wv10 hj10 ht10 hs10; have bb10 : Ext wv8 wv10 := hb10.trans (ht10.below hb10.size (fun i hi => by subst hi; exact hg10)); replace HB := Lib.hid (HB.out.trans (Below.mono bb10 HB.out.size)); replace K5 := Lib.hid (K5.out.ext bb10); replace RA := Lib.hid (RA.out.ext bb10); replace K8 := Lib.hid (K8.out.ext bb10); have K10 := Lib.hid hj10; have Q10 := Lib.hid hg10; have HZ10 : Hid (w.heap.size ≤ g10) := HZ10x; clear hg10 hk10 hb10 hj10 ht10 hs10 bb10; have q5 := K5.out.h0))
        have Hz10 : Hid (w.heap.size ≤ g10) := by show _ ≤ _; exact HZ10.out
        have n5 := blk_lt_ne K5.out K10.out (by decide)
        have n8 := blk_lt_ne K8.out K10.out (by decide)
        have na := row_blk_ne RA.out K10.out (by decide)
        refine (CSl.out wv10).mono ?_
        rintro e u ⟨rfl, rfl⟩
        go_wp2_with (first
          | (refine wpList_store_two rfl (.tmp 51) (.tmp 50) rfl g10 0 #[.slice a1 n1 c1, .slice a1 n1 c1] T2 _ _ _ (by rfl) (by rfl) K10.out (by show 0 < 2; decide) ?_; intro wa hk ht; replace K5 := Lib.hid (K5.out.turn ht n5); replace K8 := Lib.hid (K8.out.turn ht n8); replace RA := Lib.hid (RA.out.turn ht na); replace HB := Lib.hid (HB.out.trans (ht.below HB.out.size (fun i hi => by subst hi; have := Hz10.out; omega))); replace K10 := Lib.hid (show Blk wa g10 T2 #[.slice (some ⟨ga, 0, none⟩) 512 512, .slice a1 n1 c1] from hk); clear hk ht q5; have k0 := K10.out.cell 0; rw [show (#[.slice (some ⟨ga, 0, none⟩) 512 512, .slice a1 n1 c1] : Array Value)[0]? = some (.slice (some ⟨ga, 0, none⟩) 512 512) from rfl] at k0; have k1 := K10.out.cell 1; rw [show (#[.slice (some ⟨ga, 0, none⟩) 512 512, .slice a1 n1 c1] : Array Value)[1]? = some (.slice a1 n1 c1) from rfl] at k1))
        clear n5 n8 na Hz10 HZ10
        refine (CP1.out _ _ wa (RA.out.ba PX.out.1 PX.out.2) (EA.out.below HB.out (Nat.le_refl _)) (HW.out.below HB.out) (HM.out.below HB.out)).mono ?_
        rintro e u3 ⟨rfl, hb⟩
        replace HB := Lib.hid (HB.out.trans (Below.mono hb HB.out.size))
        replace K5 := Lib.hid (K5.out.ext hb)
        replace RA := Lib.hid (RA.out.ext hb)
        replace K8 := Lib.hid (K8.out.ext hb)
        replace K10 := Lib.hid (K10.out.ext hb)
        clear hb
        clear k0 k1
        go_wp2_with (first
          | (show wpList _ _ _ (⟨some 11, _, _, _, _, _⟩ :: _) _ _; refine wpList_alloc_arr rfl HT rfl arrz_HT ?_; intro g11 wa11 hg11 hk11 hb11)
          | (refine wpList_store_agg rfl HT (.tmp 11) (.tmp 58) rfl g11 (hv R1) _ HT (by rfl) (by rfl) agg_HT hk11 (hv_size _) (hv_size _) (hv_one _) ?_; intro wv11 hj11 ht11 hs11; have bb11 : Ext u3 wv11 := hb11.trans (ht11.below hb11.size (fun i hi => by subst hi; exact hg11)); replace HB := Lib.hid (HB.out.trans (Below.mono bb11 HB.out.size)); replace K5 := Lib.hid (K5.out.ext bb11); replace RA := Lib.hid (RA.out.ext bb11); replace K8 := Lib.hid (K8.out.ext bb11); replace K10 := Lib.hid (K10.out.ext bb11); have K11 := Lib.hid hj11; have Q11 := Lib.hid hg11; clear hg11 hk11 hb11 hj11 ht11 hs11 bb11)
          | (refine wpList_build rfl T2 _ rfl _ (by rfl) #[.slice none 0 0, .slice none 0 0] (build_T2 _) ?_)
          | (show wpList _ _ _ (⟨some 13, _, _, _, _, _⟩ :: _) _ _; refine wpList_alloc_arr rfl T2 rfl arrz_T2 ?_; intro g13 wa13 hg13 hk13 hb13; have HZ13x : w.heap.size ≤ g13 := Nat.le_trans HB.out.size hg13)
          | (refine wpList_store_agg rfl T2 (.tmp 13) (.tmp 60) rfl g13 #[.slice none 0 0, .slice none 0 0] _ T2 (by rfl) (by rfl) agg_T2 hk13 rfl rfl (by simp [Value.oneCell']) ?_; intro wv13 hj13 ht13 hs13; have bb13 : Ext wv11 wv13 := hb13.trans (ht13.below hb13.size (fun i hi => by subst hi; exact hg13)); replace HB := Lib.hid (HB.out.trans (Below.mono bb13 HB.out.size)); replace K5 := Lib.hid (K5.out.ext bb13); replace RA := Lib.hid (RA.out.ext bb13); replace K8 := Lib.hid (K8.out.ext bb13); replace K10 := Lib.hid (K10.out.ext bb13); replace K11 := Lib.hid (K11.out.ext bb13); have K13 := Lib.hid hj13; have Q13 := Lib.hid hg13; have HZ13 : Hid (w.heap.size ≤ g13) := HZ13x; clear hg13 hk13 hb13 hj13 ht13 hs13 bb13; have q5 := K5.out.h0))
        have Hz13 : Hid (w.heap.size ≤ g13) := by show _ ≤ _; exact HZ13.out
        have n5 := blk_lt_ne K5.out K13.out (by decide)
        have n8 := blk_lt_ne K8.out K13.out (by decide)
        have n11 := blk_lt_ne K11.out K13.out (by decide)
        have na := row_blk_ne RA.out K13.out (by decide)
        clear K10
        refine (CSl.out wv13).mono ?_
        rintro e u ⟨rfl, rfl⟩
        go_wp2_with (first
          | (refine wpList_store_two rfl (.tmp 66) (.tmp 65) rfl g13 1 #[.slice none 0 0, .slice none 0 0] T2 _ _ _ (by rfl) (by rfl) K13.out (by show 1 < 2; decide) ?_; intro wb hk ht; replace K5 := Lib.hid (K5.out.turn ht n5); replace K8 := Lib.hid (K8.out.turn ht n8); replace K11 := Lib.hid (K11.out.turn ht n11); replace RA := Lib.hid (RA.out.turn ht na); replace HB := Lib.hid (HB.out.trans (ht.below HB.out.size (fun i hi => by subst hi; have := Hz13.out; omega))); replace K13 := Lib.hid (show Blk wb g13 T2 #[.slice none 0 0, .slice (some ⟨ga, 0, none⟩) 512 512] from hk); clear hk ht q5; have k0 := K13.out.cell 0; rw [show (#[.slice none 0 0, .slice (some ⟨ga, 0, none⟩) 512 512] : Array Value)[0]? = some (.slice none 0 0) from rfl] at k0; have k1 := K13.out.cell 1; rw [show (#[.slice none 0 0, .slice (some ⟨ga, 0, none⟩) 512 512] : Array Value)[1]? = some (.slice (some ⟨ga, 0, none⟩) 512 512) from rfl] at k1))
        clear n5 n8 n11 na Hz13 HZ13
        refine (CP2.out _ _ wb (BA.none _) (RA.out.ba PX.out.1 PX.out.2) (HW.out.below HB.out) (HM.out.below HB.out)).mono ?_
        rintro e u4 ⟨rfl, hb⟩
        replace HB := Lib.hid (HB.out.trans (Below.mono hb HB.out.size))
        replace K5 := Lib.hid (K5.out.ext hb)
        replace RA := Lib.hid (RA.out.ext hb)
        replace K8 := Lib.hid (K8.out.ext hb)
        replace K11 := Lib.hid (K11.out.ext hb)
        replace K13 := Lib.hid (K13.out.ext hb)
        clear hb
        clear k0 k1 K13
        by_cases hN0 : N = 0
        · subst hN0
          rw [errS_0]
          clear HQ HN
          go_wp2_with (first
            | (show wpList _ _ _ (⟨some 14, _, _, _, _, _⟩ :: _) _ _; refine wpList_alloc_arr rfl HT rfl arrz_HT ?_; intro g14 wa14 hg14 hk14 hb14)
            | (refine wpList_store_agg rfl HT (.tmp 14) (.tmp 73) rfl g14 (hv hd0) _ HT (by rfl) (by rfl) agg_HT hk14 (hv_size _) (hv_size _) (hv_one _) ?_; intro wv14 hj14 ht14 hs14; have bb14 : Ext u4 wv14 := hb14.trans (ht14.below hb14.size (fun i hi => by subst hi; exact hg14)); replace HB := Lib.hid (HB.out.trans (Below.mono bb14 HB.out.size)); replace K5 := Lib.hid (K5.out.ext bb14); replace RA := Lib.hid (RA.out.ext bb14); replace K8 := Lib.hid (K8.out.ext bb14); replace K11 := Lib.hid (K11.out.ext bb14); have K14 := Lib.hid hj14; have Q14 := Lib.hid hg14; clear hg14 hk14 hb14 hj14 ht14 hs14 bb14))
          refine (CN.out wv14 (HG.out.below HB.out)).mono ?_
          rintro e u5 ⟨rfl, hb⟩
          replace HB := Lib.hid (HB.out.trans (Below.mono hb HB.out.size))
          replace K5 := Lib.hid (K5.out.ext hb)
          replace RA := Lib.hid (RA.out.ext hb)
          replace K8 := Lib.hid (K8.out.ext hb)
          replace K11 := Lib.hid (K11.out.ext hb)
          replace K14 := Lib.hid (K14.out.ext hb)
          clear hb
          go_wp2_with fail
          refine (CSu.out u5 (HG.out.below HB.out) (HW.out.below HB.out) (HM.out.below HB.out)).mono ?_
          rintro e u6 ⟨rfl, hb⟩
          replace HB := Lib.hid (HB.out.trans (Below.mono hb HB.out.size))
          replace K5 := Lib.hid (K5.out.ext hb)
          replace RA := Lib.hid (RA.out.ext hb)
          replace K8 := Lib.hid (K8.out.ext hb)
          replace K11 := Lib.hid (K11.out.ext hb)
          replace K14 := Lib.hid (K14.out.ext hb)
          clear hb
          go_wp2
          go_ret
          exact ⟨rfl, HB.out⟩
        · rw [errS_not hN0]
          have hq := HQ.out hN0
          obtain ⟨hq1, hq2⟩ := Prod.mk.inj hq
          obtain rfl : h = R1 := hq1.symm
          obtain rfl : 0 = R2 := hq2.symm
          rw [errS_0]
          clear hq HQ HN hN0
          go_wp2_with (first
            | (show wpList _ _ _ (⟨some 14, _, _, _, _, _⟩ :: _) _ _; refine wpList_alloc_arr rfl HT rfl arrz_HT ?_; intro g14 wa14 hg14 hk14 hb14)
            | (refine wpList_store_agg rfl HT (.tmp 14) (.tmp 73) rfl g14 (hv hd0) _ HT (by rfl) (by rfl) agg_HT hk14 (hv_size _) (hv_size _) (hv_one _) ?_; intro wv14 hj14 ht14 hs14; have bb14 : Ext u4 wv14 := hb14.trans (ht14.below hb14.size (fun i hi => by subst hi; exact hg14)); replace HB := Lib.hid (HB.out.trans (Below.mono bb14 HB.out.size)); replace K5 := Lib.hid (K5.out.ext bb14); replace RA := Lib.hid (RA.out.ext bb14); replace K8 := Lib.hid (K8.out.ext bb14); replace K11 := Lib.hid (K11.out.ext bb14); have K14 := Lib.hid hj14; have Q14 := Lib.hid hg14; clear hg14 hk14 hb14 hj14 ht14 hs14 bb14)
            | (refine wpList_load_agg_when (by rfl) HT (.tmp 5) rfl g5 0 (hv h) (by rfl) agg_HT K5.out.at (hv_size _) ?_)
            | (refine wpList_load_agg_when (by rfl) HT (.tmp 11) rfl g11 0 (hv h) (by rfl) agg_HT K11.out.at (hv_size _) ?_)
            | (refine wpList_eql_h_when (by rfl) (.tmp 81) (.tmp 82) _ rfl h h (by rfl) (by rfl) rfl ?_))
          refine (CN.out wv14 (HG.out.below HB.out)).mono ?_
          rintro e u5 ⟨rfl, hb⟩
          replace HB := Lib.hid (HB.out.trans (Below.mono hb HB.out.size))
          replace K5 := Lib.hid (K5.out.ext hb)
          replace RA := Lib.hid (RA.out.ext hb)
          replace K8 := Lib.hid (K8.out.ext hb)
          replace K11 := Lib.hid (K11.out.ext hb)
          replace K14 := Lib.hid (K14.out.ext hb)
          clear hb
          go_wp2_with fail
          refine (CSu.out u5 (HG.out.below HB.out) (HW.out.below HB.out) (HM.out.below HB.out)).mono ?_
          rintro e u6 ⟨rfl, hb⟩
          replace HB := Lib.hid (HB.out.trans (Below.mono hb HB.out.size))
          replace K5 := Lib.hid (K5.out.ext hb)
          replace RA := Lib.hid (RA.out.ext hb)
          replace K8 := Lib.hid (K8.out.ext hb)
          replace K11 := Lib.hid (K11.out.ext hb)
          replace K14 := Lib.hid (K14.out.ext hb)
          clear hb
          go_wp2
          go_ret
          exact ⟨rfl, HB.out⟩
      · rw [hp] at CSl
        have HP := Lib.hid hp
        clear hp
        have CP1 := Lib.hid (fun u v w e e' hT hM => pick_ba u v l1 (hpage h) w e e' hT hM)
        have HQ : Hid (N ≠ 0 → hpick l1 (hpage h) = (h, 0)) := fun hne => hpick_right HmX.out HP.out (by rw [HN.out]; exact hne)
        obtain ⟨R, hR⟩ : ∃ R, hpick l1 (hpage h) = R := ⟨_, rfl⟩
        rw [hR] at CP1 HQ
        clear hR
        have CP2 := Lib.hid (fun u v w e e' hT hM => pick_ba u v (hpage h) [] w e e' hT hM)
        rw [hpick_wrong0 HmX.out HP.out hdec_nil] at CP2
        dsimp only at CP2
        rw [errS_16] at CP2
        obtain ⟨R1, R2⟩ := R
        dsimp only at CP1
        go_enter Tryd.func5, Tryd.ntmps5
        go_wp2_with (first
          | (refine wpList_box_arr rfl RHT (.tmp 0) rfl (hv h) (by rfl) ?_; intro g2 w2 hg2 hk2 hb2; replace HB := Lib.hid (HB.out.trans (Below.mono hb2 HB.out.size)); have K2 := Lib.hid hk2; clear hg2 hk2 hb2)
          | (refine wpList_load_agg rfl RHT (.tmp 2) rfl g2 0 (hv h) (by rfl) agg_RHT K2.out.at (hv_size _) ?_)
          | (show wpList _ _ _ (⟨some 5, _, _, _, _, _⟩ :: _) _ _; refine wpList_alloc_arr rfl HT rfl arrz_HT ?_; intro g5 wa5 hg5 hk5 hb5)
          | (refine wpList_store_agg rfl HT (.tmp 5) (.tmp 16) rfl g5 (hv h) _ HT (by rfl) (by rfl) agg_HT hk5 (hv_size _) (hv_size _) (hv_one _) ?_; intro wv5 hj5 ht5 hs5; have bb5 : Ext w2 wv5 := hb5.trans (ht5.below hb5.size (fun i hi => by subst hi; exact hg5)); replace HB := Lib.hid (HB.out.trans (Below.mono bb5 HB.out.size)); have K5 := Lib.hid hj5; have Q5 := Lib.hid hg5; clear hg5 hk5 hb5 hj5 ht5 hs5 bb5)
          | (refine wpList_load_agg rfl HT (.tmp 5) rfl g5 0 (hv h) (by rfl) agg_HT K5.out.at (hv_size _) ?_))
        refine (CE.out wv5 (HM.out.below HB.out) (HW.out.below HB.out)).mono ?_
        rintro e u1 ⟨ga, rfl, hgz, hr, hb⟩
        have Hga : Hid (w.heap.size ≤ ga) := by show _ ≤ _; have := HB.out.size; omega
        replace HB := Lib.hid (HB.out.trans (Below.mono hb HB.out.size))
        replace K5 := Lib.hid (K5.out.ext hb)
        have RA := Lib.hid hr
        clear hb hr hgz
        go_wp2_with fail
        refine (CD.out _ u1 (EA.out.below HB.out (Nat.le_refl _)) (HW.out.below HB.out) (HM.out.below HB.out)).mono ?_
        rintro e u2 ⟨rfl, hb⟩
        replace HB := Lib.hid (HB.out.trans (Below.mono hb HB.out.size))
        replace K5 := Lib.hid (K5.out.ext hb)
        replace RA := Lib.hid (RA.out.ext hb)
        clear hb
        go_wp2_with (first
          | (show wpList _ _ _ (⟨some 8, _, _, _, _, _⟩ :: _) _ _; refine wpList_alloc_arr rfl HT rfl arrz_HT ?_; intro g8 wa8 hg8 hk8 hb8)
          | (refine wpList_store_agg rfl HT (.tmp 8) (.tmp 42) rfl g8 (hv X) _ HT (by rfl) (by rfl) agg_HT hk8 (hv_size _) (hv_size _) (hv_one _) ?_; intro wv8 hj8 ht8 hs8; have bb8 : Ext u2 wv8 := hb8.trans (ht8.below hb8.size (fun i hi => by subst hi; exact hg8)); replace HB := Lib.hid (HB.out.trans (Below.mono bb8 HB.out.size)); replace K5 := Lib.hid (K5.out.ext bb8); replace RA := Lib.hid (RA.out.ext bb8); have K8 := Lib.hid hj8; have Q8 := Lib.hid hg8; clear hg8 hk8 hb8 hj8 ht8 hs8 bb8)
          | (refine wpList_build rfl T2 _ rfl _ (by rfl) #[.slice a1 n1 c1, .slice a1 n1 c1] (build_two _ _ _ _ _ _ _) ?_)
          | (show wpList _ _ _ (⟨some 10, _, _, _, _, _⟩ :: _) _ _; refine wpList_alloc_arr rfl T2 rfl arrz_T2 ?_; intro g10 wa10 hg10 hk10 hb10; have HZ10x : w.heap.size ≤ g10 := Nat.le_trans HB.out.size hg10)
          | (refine wpList_store_agg rfl T2 (.tmp 10) (.tmp 46) rfl g10 #[.slice a1 n1 c1, .slice a1 n1 c1] _ T2 (by rfl) (by rfl) agg_T2 hk10 rfl rfl (by simp [Value.oneCell']) ?_; intro wv10 hj10 ht10 hs10; have bb10 : Ext wv8 wv10 := hb10.trans (ht10.below hb10.size (fun i hi => by subst hi; exact hg10)); replace HB := Lib.hid (HB.out.trans (Below.mono bb10 HB.out.size)); replace K5 := Lib.hid (K5.out.ext bb10); replace RA := Lib.hid (RA.out.ext bb10); replace K8 := Lib.hid (K8.out.ext bb10); have K10 := Lib.hid hj10; have Q10 := Lib.hid hg10; have HZ10 : Hid (w.heap.size ≤ g10) := HZ10x; clear hg10 hk10 hb10 hj10 ht10 hs10 bb10; have q5 := K5.out.h0))
        have Hz10 : Hid (w.heap.size ≤ g10) := by show _ ≤ _; exact HZ10.out
        have n5 := blk_lt_ne K5.out K10.out (by decide)
        have n8 := blk_lt_ne K8.out K10.out (by decide)
        have na := row_blk_ne RA.out K10.out (by decide)
        refine (CSl.out wv10).mono ?_
        rintro e u ⟨rfl, rfl⟩
        go_wp2_with (first
          | (refine wpList_store_two rfl (.tmp 51) (.tmp 50) rfl g10 1 #[.slice a1 n1 c1, .slice a1 n1 c1] T2 _ _ _ (by rfl) (by rfl) K10.out (by show 1 < 2; decide) ?_; intro wa hk ht; replace K5 := Lib.hid (K5.out.turn ht n5); replace K8 := Lib.hid (K8.out.turn ht n8); replace RA := Lib.hid (RA.out.turn ht na); replace HB := Lib.hid (HB.out.trans (ht.below HB.out.size (fun i hi => by subst hi; have := Hz10.out; omega))); replace K10 := Lib.hid (show Blk wa g10 T2 #[.slice a1 n1 c1, .slice (some ⟨ga, 0, none⟩) 512 512] from hk); clear hk ht q5; have k0 := K10.out.cell 0; rw [show (#[.slice a1 n1 c1, .slice (some ⟨ga, 0, none⟩) 512 512] : Array Value)[0]? = some (.slice a1 n1 c1) from rfl] at k0; have k1 := K10.out.cell 1; rw [show (#[.slice a1 n1 c1, .slice (some ⟨ga, 0, none⟩) 512 512] : Array Value)[1]? = some (.slice (some ⟨ga, 0, none⟩) 512 512) from rfl] at k1))
        clear n5 n8 na Hz10 HZ10
        refine (CP1.out _ _ wa (EA.out.below HB.out (Nat.le_refl _)) (RA.out.ba PX.out.1 PX.out.2) (HW.out.below HB.out) (HM.out.below HB.out)).mono ?_
        rintro e u3 ⟨rfl, hb⟩
        replace HB := Lib.hid (HB.out.trans (Below.mono hb HB.out.size))
        replace K5 := Lib.hid (K5.out.ext hb)
        replace RA := Lib.hid (RA.out.ext hb)
        replace K8 := Lib.hid (K8.out.ext hb)
        replace K10 := Lib.hid (K10.out.ext hb)
        clear hb
        clear k0 k1
        go_wp2_with (first
          | (show wpList _ _ _ (⟨some 11, _, _, _, _, _⟩ :: _) _ _; refine wpList_alloc_arr rfl HT rfl arrz_HT ?_; intro g11 wa11 hg11 hk11 hb11)
          | (refine wpList_store_agg rfl HT (.tmp 11) (.tmp 58) rfl g11 (hv R1) _ HT (by rfl) (by rfl) agg_HT hk11 (hv_size _) (hv_size _) (hv_one _) ?_; intro wv11 hj11 ht11 hs11; have bb11 : Ext u3 wv11 := hb11.trans (ht11.below hb11.size (fun i hi => by subst hi; exact hg11)); replace HB := Lib.hid (HB.out.trans (Below.mono bb11 HB.out.size)); replace K5 := Lib.hid (K5.out.ext bb11); replace RA := Lib.hid (RA.out.ext bb11); replace K8 := Lib.hid (K8.out.ext bb11); replace K10 := Lib.hid (K10.out.ext bb11); have K11 := Lib.hid hj11; have Q11 := Lib.hid hg11; clear hg11 hk11 hb11 hj11 ht11 hs11 bb11)
          | (refine wpList_build rfl T2 _ rfl _ (by rfl) #[.slice none 0 0, .slice none 0 0] (build_T2 _) ?_)
          | (show wpList _ _ _ (⟨some 13, _, _, _, _, _⟩ :: _) _ _; refine wpList_alloc_arr rfl T2 rfl arrz_T2 ?_; intro g13 wa13 hg13 hk13 hb13; have HZ13x : w.heap.size ≤ g13 := Nat.le_trans HB.out.size hg13)
          | (refine wpList_store_agg rfl T2 (.tmp 13) (.tmp 60) rfl g13 #[.slice none 0 0, .slice none 0 0] _ T2 (by rfl) (by rfl) agg_T2 hk13 rfl rfl (by simp [Value.oneCell']) ?_; intro wv13 hj13 ht13 hs13; have bb13 : Ext wv11 wv13 := hb13.trans (ht13.below hb13.size (fun i hi => by subst hi; exact hg13)); replace HB := Lib.hid (HB.out.trans (Below.mono bb13 HB.out.size)); replace K5 := Lib.hid (K5.out.ext bb13); replace RA := Lib.hid (RA.out.ext bb13); replace K8 := Lib.hid (K8.out.ext bb13); replace K10 := Lib.hid (K10.out.ext bb13); replace K11 := Lib.hid (K11.out.ext bb13); have K13 := Lib.hid hj13; have Q13 := Lib.hid hg13; have HZ13 : Hid (w.heap.size ≤ g13) := HZ13x; clear hg13 hk13 hb13 hj13 ht13 hs13 bb13; have q5 := K5.out.h0))
        have Hz13 : Hid (w.heap.size ≤ g13) := by show _ ≤ _; exact HZ13.out
        have n5 := blk_lt_ne K5.out K13.out (by decide)
        have n8 := blk_lt_ne K8.out K13.out (by decide)
        have n11 := blk_lt_ne K11.out K13.out (by decide)
        have na := row_blk_ne RA.out K13.out (by decide)
        clear K10
        refine (CSl.out wv13).mono ?_
        rintro e u ⟨rfl, rfl⟩
        go_wp2_with (first
          | (refine wpList_store_two rfl (.tmp 66) (.tmp 65) rfl g13 0 #[.slice none 0 0, .slice none 0 0] T2 _ _ _ (by rfl) (by rfl) K13.out (by show 0 < 2; decide) ?_; intro wb hk ht; replace K5 := Lib.hid (K5.out.turn ht n5); replace K8 := Lib.hid (K8.out.turn ht n8); replace K11 := Lib.hid (K11.out.turn ht n11); replace RA := Lib.hid (RA.out.turn ht na); replace HB := Lib.hid (HB.out.trans (ht.below HB.out.size (fun i hi => by subst hi; have := Hz13.out; omega))); replace K13 := Lib.hid (show Blk wb g13 T2 #[.slice (some ⟨ga, 0, none⟩) 512 512, .slice none 0 0] from hk); clear hk ht q5; have k0 := K13.out.cell 0; rw [show (#[.slice (some ⟨ga, 0, none⟩) 512 512, .slice none 0 0] : Array Value)[0]? = some (.slice (some ⟨ga, 0, none⟩) 512 512) from rfl] at k0; have k1 := K13.out.cell 1; rw [show (#[.slice (some ⟨ga, 0, none⟩) 512 512, .slice none 0 0] : Array Value)[1]? = some (.slice none 0 0) from rfl] at k1))
        clear n5 n8 n11 na Hz13 HZ13
        refine (CP2.out _ _ wb (RA.out.ba PX.out.1 PX.out.2) (BA.none _) (HW.out.below HB.out) (HM.out.below HB.out)).mono ?_
        rintro e u4 ⟨rfl, hb⟩
        replace HB := Lib.hid (HB.out.trans (Below.mono hb HB.out.size))
        replace K5 := Lib.hid (K5.out.ext hb)
        replace RA := Lib.hid (RA.out.ext hb)
        replace K8 := Lib.hid (K8.out.ext hb)
        replace K11 := Lib.hid (K11.out.ext hb)
        replace K13 := Lib.hid (K13.out.ext hb)
        clear hb
        clear k0 k1 K13
        by_cases hN0 : N = 0
        · subst hN0
          rw [errS_0]
          clear HQ HN
          go_wp2_with (first
            | (show wpList _ _ _ (⟨some 14, _, _, _, _, _⟩ :: _) _ _; refine wpList_alloc_arr rfl HT rfl arrz_HT ?_; intro g14 wa14 hg14 hk14 hb14)
            | (refine wpList_store_agg rfl HT (.tmp 14) (.tmp 73) rfl g14 (hv hd0) _ HT (by rfl) (by rfl) agg_HT hk14 (hv_size _) (hv_size _) (hv_one _) ?_; intro wv14 hj14 ht14 hs14; have bb14 : Ext u4 wv14 := hb14.trans (ht14.below hb14.size (fun i hi => by subst hi; exact hg14)); replace HB := Lib.hid (HB.out.trans (Below.mono bb14 HB.out.size)); replace K5 := Lib.hid (K5.out.ext bb14); replace RA := Lib.hid (RA.out.ext bb14); replace K8 := Lib.hid (K8.out.ext bb14); replace K11 := Lib.hid (K11.out.ext bb14); have K14 := Lib.hid hj14; have Q14 := Lib.hid hg14; clear hg14 hk14 hb14 hj14 ht14 hs14 bb14))
          refine (CN.out wv14 (HG.out.below HB.out)).mono ?_
          rintro e u5 ⟨rfl, hb⟩
          replace HB := Lib.hid (HB.out.trans (Below.mono hb HB.out.size))
          replace K5 := Lib.hid (K5.out.ext hb)
          replace RA := Lib.hid (RA.out.ext hb)
          replace K8 := Lib.hid (K8.out.ext hb)
          replace K11 := Lib.hid (K11.out.ext hb)
          replace K14 := Lib.hid (K14.out.ext hb)
          clear hb
          go_wp2_with fail
          refine (CSu.out u5 (HG.out.below HB.out) (HW.out.below HB.out) (HM.out.below HB.out)).mono ?_
          rintro e u6 ⟨rfl, hb⟩
          replace HB := Lib.hid (HB.out.trans (Below.mono hb HB.out.size))
          replace K5 := Lib.hid (K5.out.ext hb)
          replace RA := Lib.hid (RA.out.ext hb)
          replace K8 := Lib.hid (K8.out.ext hb)
          replace K11 := Lib.hid (K11.out.ext hb)
          replace K14 := Lib.hid (K14.out.ext hb)
          clear hb
          go_wp2
          go_ret
          exact ⟨rfl, HB.out⟩
        · rw [errS_not hN0]
          have hq := HQ.out hN0
          obtain ⟨hq1, hq2⟩ := Prod.mk.inj hq
          obtain rfl : h = R1 := hq1.symm
          obtain rfl : 0 = R2 := hq2.symm
          rw [errS_0]
          clear hq HQ HN hN0
          go_wp2_with (first
            | (show wpList _ _ _ (⟨some 14, _, _, _, _, _⟩ :: _) _ _; refine wpList_alloc_arr rfl HT rfl arrz_HT ?_; intro g14 wa14 hg14 hk14 hb14)
            | (refine wpList_store_agg rfl HT (.tmp 14) (.tmp 73) rfl g14 (hv hd0) _ HT (by rfl) (by rfl) agg_HT hk14 (hv_size _) (hv_size _) (hv_one _) ?_; intro wv14 hj14 ht14 hs14; have bb14 : Ext u4 wv14 := hb14.trans (ht14.below hb14.size (fun i hi => by subst hi; exact hg14)); replace HB := Lib.hid (HB.out.trans (Below.mono bb14 HB.out.size)); replace K5 := Lib.hid (K5.out.ext bb14); replace RA := Lib.hid (RA.out.ext bb14); replace K8 := Lib.hid (K8.out.ext bb14); replace K11 := Lib.hid (K11.out.ext bb14); have K14 := Lib.hid hj14; have Q14 := Lib.hid hg14; clear hg14 hk14 hb14 hj14 ht14 hs14 bb14)
            | (refine wpList_load_agg_when (by rfl) HT (.tmp 5) rfl g5 0 (hv h) (by rfl) agg_HT K5.out.at (hv_size _) ?_)
            | (refine wpList_load_agg_when (by rfl) HT (.tmp 11) rfl g11 0 (hv h) (by rfl) agg_HT K11.out.at (hv_size _) ?_)
            | (refine wpList_eql_h_when (by rfl) (.tmp 81) (.tmp 82) _ rfl h h (by rfl) (by rfl) rfl ?_))
          refine (CN.out wv14 (HG.out.below HB.out)).mono ?_
          rintro e u5 ⟨rfl, hb⟩
          replace HB := Lib.hid (HB.out.trans (Below.mono hb HB.out.size))
          replace K5 := Lib.hid (K5.out.ext hb)
          replace RA := Lib.hid (RA.out.ext hb)
          replace K8 := Lib.hid (K8.out.ext hb)
          replace K11 := Lib.hid (K11.out.ext hb)
          replace K14 := Lib.hid (K14.out.ext hb)
          clear hb
          go_wp2_with fail
          refine (CSu.out u5 (HG.out.below HB.out) (HW.out.below HB.out) (HM.out.below HB.out)).mono ?_
          rintro e u6 ⟨rfl, hb⟩
          replace HB := Lib.hid (HB.out.trans (Below.mono hb HB.out.size))
          replace K5 := Lib.hid (K5.out.ext hb)
          replace RA := Lib.hid (RA.out.ext hb)
          replace K8 := Lib.hid (K8.out.ext hb)
          replace K11 := Lib.hid (K11.out.ext hb)
          replace K14 := Lib.hid (K14.out.ext hb)
          clear hb
          go_wp2
          go_ret
          exact ⟨rfl, HB.out⟩
  · skip
    have CE := Lib.hid (fun w hM => enc_no h HF.out hm1 w hM)
    rw [hE_no hm1, errS_1] at CC
    clear hm1
    go_enter Tryd.func5, Tryd.ntmps5
    go_wp2_with (first
      | (refine wpList_box_arr rfl RHT (.tmp 0) rfl (hv h) (by rfl) ?_; intro g2 w2 hg2 hk2 hb2; replace HB := Lib.hid (HB.out.trans (Below.mono hb2 HB.out.size)); have K2 := Lib.hid hk2; clear hg2 hk2 hb2)
      | (refine wpList_load_agg rfl RHT (.tmp 2) rfl g2 0 (hv h) (by rfl) agg_RHT K2.out.at (hv_size _) ?_)
      | (show wpList _ _ _ (⟨some 5, _, _, _, _, _⟩ :: _) _ _; refine wpList_alloc_arr rfl HT rfl arrz_HT ?_; intro g5 wa5 hg5 hk5 hb5)
      | (refine wpList_store_agg rfl HT (.tmp 5) (.tmp 16) rfl g5 (hv h) _ HT (by rfl) (by rfl) agg_HT hk5 (hv_size _) (hv_size _) (hv_one _) ?_; intro wv5 hj5 ht5 hs5; have bb5 : Ext w2 wv5 := hb5.trans (ht5.below hb5.size (fun i hi => by subst hi; exact hg5)); replace HB := Lib.hid (HB.out.trans (Below.mono bb5 HB.out.size)); have K5 := Lib.hid hj5; have Q5 := Lib.hid hg5; clear hg5 hk5 hb5 hj5 ht5 hs5 bb5)
      | (refine wpList_load_agg rfl HT (.tmp 5) rfl g5 0 (hv h) (by rfl) agg_HT K5.out.at (hv_size _) ?_))
    refine (CE.out wv5 (HM.out.below HB.out)).mono ?_
    rintro e u1 ⟨rfl, hb⟩
    replace HB := Lib.hid (HB.out.trans (Below.mono hb HB.out.size))
    replace K5 := Lib.hid (K5.out.ext hb)
    clear hb
    go_wp2_with (first
      | (refine wpList_load_agg_when (by rfl) HT (.tmp 5) rfl g5 0 (hv h) (by rfl) agg_HT K5.out.at (hv_size _) ?_))
    refine (CC.out u1 (HM.out.below HB.out)).mono ?_
    rintro e u2 ⟨rfl, hb⟩
    replace HB := Lib.hid (HB.out.trans (Below.mono hb HB.out.size))
    replace K5 := Lib.hid (K5.out.ext hb)
    clear hb
    go_wp2_with fail
    refine (CSu.out u2 (HG.out.below HB.out) (HW.out.below HB.out) (HM.out.below HB.out)).mono ?_
    rintro e u3 ⟨rfl, hb⟩
    replace HB := Lib.hid (HB.out.trans (Below.mono hb HB.out.size))
    replace K5 := Lib.hid (K5.out.ext hb)
    clear hb
    go_wp2
    go_ret
    exact ⟨rfl, HB.out⟩
end Go.Proofs.YtofbomcimicccaaDoor
