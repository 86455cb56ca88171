/-
  HeadNewest: the law's walk (mkhead19.py).
-/
import Derived.Test.YtofbomcimicccaaDoorSure19Z
import Derived.Test.YtofbomcimicccaaDoorHdTwoZ
namespace Go.Proofs.YtofbomcimicccaaDoor
open Go Go.RowKit

theorem build_Y (s n m : Nat) (w : World) : (Instr.build HT #[(0, .int .u64 (s : Nat)), (1, .int .u64 (n : Nat)), (2, .int .u64 (m : Nat))]).run Tryd.prog w = .ok (.agg (hv ⟨s, n, m, 0, 0⟩)) w := by kernel_rfl
theorem blk_row_ne {w : World} {b g E : Nat} {t : TypeId} {cs : Array Value} {l : List Nat} (h : Blk w b t cs) (hr : Row w g E l) (ht : t ≠ E) : b ≠ g := fun e => by
  subst e
  have h1 : w.heap[b]? = some (.cells cs t (0, 0)) := h
  have h2 : w.heap[b]? = some (.cells (bv l).toArray E (0, 0)) := hr
  rw [h1] at h2
  cases h2
  exact ht rfl
set_option maxRecDepth 100000 in
set_option maxHeartbeats 4000000 in
theorem newest_any (h : Hd) (hf : h.Fit) (n m : Nat) (x : Int) (w : World) (hn : n < 65536) (hm : m < 65536) (hg : Hg w) (hT : WorthIn w) (hM : MostIn w) :
    Calls Tryd.prog 4 #[.agg (hv h), .agg #[.int .u16 (n : Nat), .int .u16 (m : Nat)], .int .i64 x] w fun e w' => e = .returned (.bool true) ∧ Below w.heap.size w w' := by
  have HG := Lib.hid hg
  have HW := Lib.hid hT
  have HM := Lib.hid hM
  have HB := Lib.hid (Below.refl w.heap.size w)
  have CSu := Lib.hid (fun w hg hT hM => hsure_any w hg hT hM)
  have HF := Lib.hid hf
  have CC := Lib.hid (fun w hM => check_any h HF.out w hM)
  have HN := Lib.hid (And.intro hn hm)
  clear hg hT hM hf
  by_cases hm1 : HMay h
  · skip
    rw [hE_yes hm1, errS_0] at CC
    by_cases hs0 : h.s = 0
    · have d0 : ((h.s : Int) == 0) = true := by rw [hs0]; rfl
      clear hm1 HN HF hs0
      go_enter Tryd.func4, Tryd.ntmps4
      go_wp2_with (first
        | (refine wpList_box_arr rfl RHT (.tmp 0) rfl (hv h) (by rfl) ?_; intro g3 w1 hg3 hk3 hb3)
        | (refine wpList_box_arr rfl T16 (.tmp 1) rfl #[.int .u16 n, .int .u16 m] (by rfl) ?_; intro g4 w2 hg4 hk4 hb4; have bb : Ext w w2 := hb3.trans (Below.mono hb4 hb3.size); replace HB := Lib.hid (HB.out.trans (Below.mono bb HB.out.size)); have K3 := Lib.hid (hk3.ext hb4); have K4 := Lib.hid hk4; clear hg3 hk3 hb3 hg4 hk4 hb4 bb)
        | (refine wpList_load_agg rfl RHT (.tmp 3) rfl g3 0 (hv h) (by rfl) agg_RHT K3.out.at (hv_size _) ?_)
        | (show wpList _ _ _ (⟨some 7, _, _, _, _, _⟩ :: _) _ _; refine wpList_alloc_arr rfl HT rfl arrz_HT ?_; intro g7 wa7 hg7 hk7 hb7)
        | (refine wpList_store_agg rfl HT (.tmp 7) (.tmp 21) rfl g7 (hv h) _ HT (by rfl) (by rfl) agg_HT hk7 (hv_size _) (hv_size _) (hv_one _) ?_; intro wv7 hj7 ht7 hs7; have bb7 : Ext w2 wv7 := hb7.trans (ht7.below hb7.size (fun i hi => by subst hi; exact hg7)); replace HB := Lib.hid (HB.out.trans (Below.mono bb7 HB.out.size)); replace K4 := Lib.hid (K4.out.ext bb7); have K7 := Lib.hid hj7; have Q7 := Lib.hid hg7; clear hg7 hk7 hb7 hj7 ht7 hs7 bb7)
        | (refine wpList_load_agg rfl HT (.tmp 7) rfl g7 0 (hv h) (by rfl) agg_HT K7.out.at (hv_size _) ?_))
      refine (CC.out wv7 (HM.out.below HB.out)).mono ?_
      rintro e u1 ⟨rfl, hb⟩
      replace HB := Lib.hid (HB.out.trans (Below.mono hb HB.out.size))
      replace K4 := Lib.hid (K4.out.ext hb)
      replace K7 := Lib.hid (K7.out.ext hb)
      clear hb
      have q7 := K7.out.h0
      go_wp2_with fail
      refine (CSu.out u1 (HG.out.below HB.out) (HW.out.below HB.out) (HM.out.below HB.out)).mono ?_
      rintro e u2 ⟨rfl, hb⟩
      replace HB := Lib.hid (HB.out.trans (Below.mono hb HB.out.size))
      replace K4 := Lib.hid (K4.out.ext hb)
      replace K7 := Lib.hid (K7.out.ext hb)
      clear hb
      go_wp2
      go_ret
      exact ⟨rfl, HB.out⟩
    · have d0 : ((h.s : Int) == 0) = false := by rw [beq_eq_false_iff_ne]; omega
      obtain ⟨S, hS⟩ : ∃ S, h.s = S + 1 := ⟨h.s - 1, by omega⟩
      have hs9 := HF.out.s
      have hs62 : h.s ≤ B62 := hm1.1.1
      have z1 : IntKind.u64.wrap ((h.s : Int) - 1) = (S : Int) := by rw [IntKind.wrap_u64]; omega
      have zn : IntKind.u64.wrap (n : Int) = (n : Int) := by rw [IntKind.wrap_u64]; omega
      have zm : IntKind.u64.wrap (m : Int) = (m : Int) := by rw [IntKind.wrap_u64]; omega
      obtain ⟨Y, hY⟩ : ∃ Y : Hd, (⟨S, n, m, 0, 0⟩ : Hd) = Y := ⟨_, rfl⟩
      have hmY : HMay Y := by rw [← hY]; unfold HMay B62 at *; dsimp only; omega
      have hYs : h.s = Y.s + 1 := by rw [← hY]; exact hS
      have hbY : ∀ w : World, (Instr.build HT #[(0, .int .u64 (S : Nat)), (1, .int .u64 (n : Nat)), (2, .int .u64 (m : Nat))]).run Tryd.prog w = .ok (.agg (hv Y)) w := fun w => by rw [← hY]; exact build_Y S n m w
      have HbY := Lib.hid hbY
      have CEx := Lib.hid (fun w hM hT => enc_yes h hm1 w hM hT)
      have CEy := Lib.hid (fun w hM hT => enc_yes Y hmY w hM hT)
      have CD := Lib.hid (fun v w e hT hM => dec_ba v (hpage h) w e hT hM)
      rw [hdec_page hm1] at CD
      have PX := Lib.hid (And.intro (hpage_len hm1) (hpage_b8 hm1))
      have PY := Lib.hid (And.intro (hpage_len hmY) (hpage_b8 hmY))
      obtain ⟨q, P, I, J, X, T, Z, hbit⟩ := bit_any x (hpage h) (hpage_b8 hm1)
      have HTu := Lib.hid (hdec_turned hm1 I Z hbit.Il hbit.Yl (by rw [← hbit.eX]; exact hbit.ne))
      have HBit := Lib.hid hbit
      have HYs := Lib.hid hYs
      have HmX := Lib.hid hm1
      have HmY := Lib.hid hmY
      dsimp only at CD
      rw [errS_0] at CD
      clear hs0 hS hs9 hs62 hY hmY hYs hbY hm1 hbit HN HF
      go_enter Tryd.func4, Tryd.ntmps4
      go_wp2_with (first
        | (refine wpList_box_arr rfl RHT (.tmp 0) rfl (hv h) (by rfl) ?_; intro g3 w1 hg3 hk3 hb3)
        | (refine wpList_box_arr rfl T16 (.tmp 1) rfl #[.int .u16 n, .int .u16 m] (by rfl) ?_; intro g4 w2 hg4 hk4 hb4; have bb : Ext w w2 := hb3.trans (Below.mono hb4 hb3.size); replace HB := Lib.hid (HB.out.trans (Below.mono bb HB.out.size)); have K3 := Lib.hid (hk3.ext hb4); have K4 := Lib.hid hk4; clear hg3 hk3 hb3 hg4 hk4 hb4 bb)
        | (refine wpList_load_agg rfl RHT (.tmp 3) rfl g3 0 (hv h) (by rfl) agg_RHT K3.out.at (hv_size _) ?_)
        | (show wpList _ _ _ (⟨some 7, _, _, _, _, _⟩ :: _) _ _; refine wpList_alloc_arr rfl HT rfl arrz_HT ?_; intro g7 wa7 hg7 hk7 hb7)
        | (refine wpList_store_agg rfl HT (.tmp 7) (.tmp 21) rfl g7 (hv h) _ HT (by rfl) (by rfl) agg_HT hk7 (hv_size _) (hv_size _) (hv_one _) ?_; intro wv7 hj7 ht7 hs7; have bb7 : Ext w2 wv7 := hb7.trans (ht7.below hb7.size (fun i hi => by subst hi; exact hg7)); replace HB := Lib.hid (HB.out.trans (Below.mono bb7 HB.out.size)); replace K4 := Lib.hid (K4.out.ext bb7); have K7 := Lib.hid hj7; have Q7 := Lib.hid hg7; clear hg7 hk7 hb7 hj7 ht7 hs7 bb7)
        | (refine wpList_load_agg rfl HT (.tmp 7) rfl g7 0 (hv h) (by rfl) agg_HT K7.out.at (hv_size _) ?_))
      refine (CC.out wv7 (HM.out.below HB.out)).mono ?_
      rintro e u1 ⟨rfl, hb⟩
      replace HB := Lib.hid (HB.out.trans (Below.mono hb HB.out.size))
      replace K4 := Lib.hid (K4.out.ext hb)
      replace K7 := Lib.hid (K7.out.ext hb)
      clear hb
      have q7 := K7.out.h0
      have c40 := K4.out.cell 0
      have c41 := K4.out.cell 1
      rw [show (#[.int .u16 n, .int .u16 m] : Array Value)[0]? = some (.int .u16 n) from rfl] at c40
      rw [show (#[.int .u16 n, .int .u16 m] : Array Value)[1]? = some (.int .u16 m) from rfl] at c41
      go_wp2_with (first
        | (refine wpList_build rfl HT _ rfl _ (by rfl) (hv Y) (HbY.out _) ?_; clear q7 c40 c41)
        | (show wpList _ _ _ (⟨some 8, _, _, _, _, _⟩ :: _) _ _; refine wpList_alloc_arr rfl HT rfl arrz_HT ?_; intro g8 wa8 hg8 hk8 hb8)
        | (refine wpList_store_agg rfl HT (.tmp 8) (.tmp 40) rfl g8 (hv Y) _ HT (by rfl) (by rfl) agg_HT hk8 (hv_size _) (hv_size _) (hv_one _) ?_; intro wv8 hj8 ht8 hs8; have bb8 : Ext u1 wv8 := hb8.trans (ht8.below hb8.size (fun i hi => by subst hi; exact hg8)); replace HB := Lib.hid (HB.out.trans (Below.mono bb8 HB.out.size)); replace K4 := Lib.hid (K4.out.ext bb8); replace K7 := Lib.hid (K7.out.ext bb8); have K8 := Lib.hid hj8; have Q8 := Lib.hid hg8; clear hg8 hk8 hb8 hj8 ht8 hs8 bb8)
        | (refine wpList_load_agg rfl HT (.tmp 7) rfl g7 0 (hv h) (by rfl) agg_HT K7.out.at (hv_size _) ?_)
        | (refine wpList_load_agg rfl HT (.tmp 8) rfl g8 0 (hv Y) (by rfl) agg_HT K8.out.at (hv_size _) ?_))
      refine (CEx.out wv8 (HM.out.below HB.out) (HW.out.below HB.out)).mono ?_
      rintro e u2 ⟨ga, rfl, hgz, hr, hb⟩
      have Hga : Hid (w.heap.size ≤ ga) := by show _ ≤ _; have := HB.out.size; omega
      replace HB := Lib.hid (HB.out.trans (Below.mono hb HB.out.size))
      replace K7 := Lib.hid (K7.out.ext hb)
      replace K8 := Lib.hid (K8.out.ext hb)
      have RA := Lib.hid hr
      clear hb hr hgz
      go_wp2_with (first
        | (refine wpList_load_agg rfl HT (.tmp 7) rfl g7 0 (hv h) (by rfl) agg_HT K7.out.at (hv_size _) ?_)
        | (refine wpList_load_agg rfl HT (.tmp 8) rfl g8 0 (hv Y) (by rfl) agg_HT K8.out.at (hv_size _) ?_))
      refine (CEy.out u2 (HM.out.below HB.out) (HW.out.below HB.out)).mono ?_
      rintro e u3 ⟨gb, rfl, hgz, hr, hb⟩
      have Hgb : Hid (w.heap.size ≤ gb) := by show _ ≤ _; have := HB.out.size; omega
      have Hab : Hid (ga ≠ gb) := by show _ ≠ _; have := RA.out.lt; omega
      replace HB := Lib.hid (HB.out.trans (Below.mono hb HB.out.size))
      replace K7 := Lib.hid (K7.out.ext hb)
      replace K8 := Lib.hid (K8.out.ext hb)
      replace RA := Lib.hid (RA.out.ext hb)
      have RB := Lib.hid hr
      clear hb hr hgz
      go_wp2_with fail
      refine (CD.out _ u3 (RA.out.ba PX.out.1 PX.out.2) (HW.out.below HB.out) (HM.out.below HB.out)).mono ?_
      rintro e u4 ⟨rfl, hb⟩
      replace HB := Lib.hid (HB.out.trans (Below.mono hb HB.out.size))
      replace K7 := Lib.hid (K7.out.ext hb)
      replace K8 := Lib.hid (K8.out.ext hb)
      replace RA := Lib.hid (RA.out.ext hb)
      replace RB := Lib.hid (RB.out.ext hb)
      clear hb
      go_wp2_with (first
        | (show wpList _ _ _ (⟨some 13, _, _, _, _, _⟩ :: _) _ _; refine wpList_alloc_arr rfl HT rfl arrz_HT ?_; intro g13 wa13 hg13 hk13 hb13)
        | (refine wpList_store_agg rfl HT (.tmp 13) (.tmp 60) rfl g13 (hv h) _ HT (by rfl) (by rfl) agg_HT hk13 (hv_size _) (hv_size _) (hv_one _) ?_; intro wv13 hj13 ht13 hs13; have bb13 : Ext u4 wv13 := hb13.trans (ht13.below hb13.size (fun i hi => by subst hi; exact hg13)); replace HB := Lib.hid (HB.out.trans (Below.mono bb13 HB.out.size)); replace K7 := Lib.hid (K7.out.ext bb13); replace K8 := Lib.hid (K8.out.ext bb13); replace RA := Lib.hid (RA.out.ext bb13); replace RB := Lib.hid (RB.out.ext bb13); have K13 := Lib.hid hj13; have Q13 := Lib.hid hg13; clear hg13 hk13 hb13 hj13 ht13 hs13 bb13)
        | (refine wpList_alloc_arr rfl T2 rfl arrz_T2 ?_; intro g15 w15 hg15 hk15 hb15; have N7 : Hid (g7 ≠ g15) := (by show _ ≠ _; have := K7.out.lt; omega); have N8 : Hid (g8 ≠ g15) := (by show _ ≠ _; have := K8.out.lt; omega); have N13 : Hid (g13 ≠ g15) := (by show _ ≠ _; have := K13.out.lt; omega); have NA : Hid (ga ≠ g15) := (by show _ ≠ _; have := RA.out.lt; omega); have NB : Hid (gb ≠ g15) := (by show _ ≠ _; have := RB.out.lt; omega); have H15 : Hid (w.heap.size ≤ g15) := (by show _ ≤ _; have := HB.out.size; omega); replace HB := Lib.hid (HB.out.trans (Below.mono hb15 HB.out.size)); replace K7 := Lib.hid (K7.out.ext hb15); replace K8 := Lib.hid (K8.out.ext hb15); replace RA := Lib.hid (RA.out.ext hb15); replace RB := Lib.hid (RB.out.ext hb15); replace K13 := Lib.hid (K13.out.ext hb15); have K15 := Lib.hid hk15; clear hg15 hk15 hb15))
      refine wp_region_gt (F := fun i => i = g15) [(0, true), (1, true), (3, true), (4, true), (6, true), (7, true), (2, false), (8, true), (5, false), (9, false), (10, true), (11, false)] (by kernel_rfl) (by kernel_rfl) (by kernel_rfl) (by kernel_rfl) (fun _ _ _ _ _ h => h) ?_
      replace HB := Lib.hid HB.out.drew
      replace K7 := Lib.hid (K7.out.ext (Ext.drew _))
      replace K8 := Lib.hid (K8.out.ext (Ext.drew _))
      replace RA := Lib.hid (RA.out.ext (Ext.drew _))
      replace RB := Lib.hid (RB.out.ext (Ext.drew _))
      replace K13 := Lib.hid (K13.out.ext (Ext.drew _))
      replace K15 := Lib.hid (K15.out.ext (Ext.drew _))
      generalize w15.drew = ud at *
      have HBd := HB
      have ys := HYs.out
      have hsx := HmX.out.fit.s
      have hsy := HmY.out.fit.s
      have sl1 := slot_any h.s ud hsx
      have sl2 := slot_any Y.s ud hsy
      clear hsx hsy
      have q7 : ∀ w', Turn (fun i => i = g15) ud w' → w'.cell? ⟨g7, 0, none⟩ = some (.int .u64 (h.s : Nat)) := fun w' hw => (K7.out.turn hw N7.out).h0
      have q8 : ∀ w', Turn (fun i => i = g15) ud w' → w'.cell? ⟨g8, 0, none⟩ = some (.int .u64 (Y.s : Nat)) := fun w' hw => (K8.out.turn hw N8.out).h0
      rcases (show h.s % 2 = 0 ∨ h.s % 2 = 1 by omega) with hp | hp
      · have hp2 : Y.s % 2 = 1 := by omega
        rw [hp] at sl1
        rw [hp2] at sl2
        have HP := Lib.hid (And.intro hp hp2)
        clear hp hp2 ys
        have CP1 := Lib.hid (fun u v w e e' hT hM => pick_ba u v (hpage h) (hpage Y) w e e' hT hM)
        rw [hpick_newer0 HmX.out HmY.out HP.out.1 HYs.out] at CP1
        have CP2 := Lib.hid (fun u v w e e' hT hM => pick_ba u v ((hpage h).set I Z) (hpage Y) w e e' hT hM)
        rw [hpick_right HmY.out HP.out.2 (by rw [HTu.out]; decide)] at CP2
        dsimp only at CP1 CP2
        rw [errS_0] at CP1 CP2
        iterate 6 (refine wpGt_read (o := ⟨_, _, _, _, _, _⟩) (v := ?_) rfl (by rfl) ?_ ?_; rotate_left; (intro w' hw'; go_simp; with_reducible rfl); simp only [Act.put, List.setIfInBounds_toArray, List.set_cons_zero, List.set_cons_succ])
        clear q7 q8
        refine wpGt_call (o := ⟨_, _, _, _, _, _⟩) rfl (by rfl) (fun K hK => ?_)
        try go_simp
        refine sl1.mono ?_
        rintro e u ⟨rfl, rfl⟩
        refine hK _ _ (Turn.refl _ _) ?_
        clear hK K sl1
        try simp only [Act.put, List.setIfInBounds_toArray, List.set_cons_zero, List.set_cons_succ]
        (refine wpGt_read (o := ⟨_, _, _, _, _, _⟩) (v := ?_) rfl (by rfl) ?_ ?_; rotate_left; (intro w' hw'; go_simp; with_reducible rfl); simp only [Act.put, List.setIfInBounds_toArray, List.set_cons_zero, List.set_cons_succ])
        refine wpGt_call (o := ⟨_, _, _, _, _, _⟩) rfl (by rfl) (fun K hK => ?_)
        try go_simp
        refine sl2.mono ?_
        rintro e u ⟨rfl, rfl⟩
        refine hK _ _ (Turn.refl _ _) ?_
        clear hK K sl2
        try simp only [Act.put, List.setIfInBounds_toArray, List.set_cons_zero, List.set_cons_succ]
        refine wpGt_call (o := ⟨_, _, _, _, _, _⟩) rfl (by rfl) (fun K hK => ?_)
        refine wp_store_two (.tmp 70) (.tmp 68) rfl g15 0 #[.slice none 0 0, .slice none 0 0] T2 _ _ _ (by rfl) (by rfl) K15.out (by show 0 < 2; decide) ?_
        intro we hk ht
        refine hK _ _ ht ?_
        clear hK K
        simp only [Act.put]
        replace K7 := Lib.hid (K7.out.turn ht N7.out)
        replace K8 := Lib.hid (K8.out.turn ht N8.out)
        replace K13 := Lib.hid (K13.out.turn ht N13.out)
        replace RA := Lib.hid (RA.out.turn ht NA.out)
        replace RB := Lib.hid (RB.out.turn ht NB.out)
        replace HB := Lib.hid (HB.out.trans (ht.below HB.out.size (fun i hi => by subst hi; exact H15.out)))
        replace K15 := Lib.hid (show Blk we g15 T2 #[.slice (some ⟨ga, 0, none⟩) 512 512, .slice none 0 0] from hk)
        clear hk ht
        (refine wpGt_read (o := ⟨_, _, _, _, _, _⟩) (v := ?_) rfl (by rfl) ?_ ?_; rotate_left; (intro w' hw'; go_simp; with_reducible rfl); simp only [Act.put, List.setIfInBounds_toArray, List.set_cons_zero, List.set_cons_succ])
        refine wpGt_call (o := ⟨_, _, _, _, _, _⟩) rfl (by rfl) (fun K hK => ?_)
        refine wp_store_two (.tmp 71) (.tmp 69) rfl g15 1 #[.slice (some ⟨ga, 0, none⟩) 512 512, .slice none 0 0] T2 _ _ _ (by rfl) (by rfl) K15.out (by show 1 < 2; decide) ?_
        intro wf hk ht
        refine hK _ _ ht ?_
        clear hK K
        simp only [Act.put]
        replace K7 := Lib.hid (K7.out.turn ht N7.out)
        replace K8 := Lib.hid (K8.out.turn ht N8.out)
        replace K13 := Lib.hid (K13.out.turn ht N13.out)
        replace RA := Lib.hid (RA.out.turn ht NA.out)
        replace RB := Lib.hid (RB.out.turn ht NB.out)
        replace HB := Lib.hid (HB.out.trans (ht.below HB.out.size (fun i hi => by subst hi; exact H15.out)))
        replace K15 := Lib.hid (show Blk wf g15 T2 #[.slice (some ⟨ga, 0, none⟩) 512 512, .slice (some ⟨gb, 0, none⟩) 512 512] from hk)
        clear hk ht HBd
        refine wpGt_done ?_
        have k0 := K15.out.cell 0
        rw [show (#[.slice (some ⟨ga, 0, none⟩) 512 512, .slice (some ⟨gb, 0, none⟩) 512 512] : Array Value)[0]? = some (.slice (some ⟨ga, 0, none⟩) 512 512) from rfl] at k0
        have k1 := K15.out.cell 1
        rw [show (#[.slice (some ⟨ga, 0, none⟩) 512 512, .slice (some ⟨gb, 0, none⟩) 512 512] : Array Value)[1]? = some (.slice (some ⟨gb, 0, none⟩) 512 512) from rfl] at k1
        go_wp2_with fail
        refine (CP1.out _ _ wf (RA.out.ba PX.out.1 PX.out.2) (RB.out.ba PY.out.1 PY.out.2) (HW.out.below HB.out) (HM.out.below HB.out)).mono ?_
        rintro e u5 ⟨rfl, hb⟩
        replace HB := Lib.hid (HB.out.trans (Below.mono hb HB.out.size))
        replace K7 := Lib.hid (K7.out.ext hb)
        replace K8 := Lib.hid (K8.out.ext hb)
        replace RA := Lib.hid (RA.out.ext hb)
        replace RB := Lib.hid (RB.out.ext hb)
        replace K13 := Lib.hid (K13.out.ext hb)
        replace K15 := Lib.hid (K15.out.ext hb)
        clear hb
        clear k0 k1
        have b1 := HBit.out.eq
        have b2 := HBit.out.eP
        have b3 := HBit.out.eI
        have b4 := HBit.out.eJ
        have b5 := HBit.out.Pl
        have b6 := HBit.out.Il
        have b7 := HBit.out.Jl
        have b8 := HBit.out.Tl
        have b9 := HBit.out.eY
        go_wp2_with (first
          | (show wpList _ _ _ (⟨some 16, _, _, _, _, _⟩ :: _) _ _; refine wpList_alloc_arr rfl HT rfl arrz_HT ?_; intro g16 wa16 hg16 hk16 hb16)
          | (refine wpList_store_agg rfl HT (.tmp 16) (.tmp 78) rfl g16 (hv h) _ HT (by rfl) (by rfl) agg_HT hk16 (hv_size _) (hv_size _) (hv_one _) ?_; intro wv16 hj16 ht16 hs16; have bb16 : Ext u5 wv16 := hb16.trans (ht16.below hb16.size (fun i hi => by subst hi; exact hg16)); replace HB := Lib.hid (HB.out.trans (Below.mono bb16 HB.out.size)); replace K7 := Lib.hid (K7.out.ext bb16); replace K8 := Lib.hid (K8.out.ext bb16); replace RA := Lib.hid (RA.out.ext bb16); replace RB := Lib.hid (RB.out.ext bb16); replace K13 := Lib.hid (K13.out.ext bb16); replace K15 := Lib.hid (K15.out.ext bb16); have K16 := Lib.hid hj16; have Q16 := Lib.hid hg16; clear hg16 hk16 hb16 hj16 ht16 hs16 bb16; have cX := RA.out.cell I (by rw [PX.out.1]; exact HBit.out.Il); rw [← HBit.out.eX] at cX)
          | (refine wpList_load_agg_when (by rfl) HT (.tmp 7) rfl g7 0 (hv h) (by rfl) agg_HT K7.out.at (hv_size _) ?_)
          | (refine wpList_load_agg_when (by rfl) HT (.tmp 13) rfl g13 0 (hv h) (by rfl) agg_HT K13.out.at (hv_size _) ?_)
          | (refine wpList_load_agg_when (by rfl) HT (.tmp 16) rfl g16 0 (hv h) (by rfl) agg_HT K16.out.at (hv_size _) ?_)
          | (refine wpList_neq_h_when (by rfl) (.tmp 87) (.tmp 88) _ rfl h h (by rfl) (by rfl) rfl ?_)
          | (refine wpList_neq_h_when (by rfl) (.tmp 92) (.tmp 93) _ rfl h h (by rfl) (by rfl) rfl ?_)
          | (refine wpList_store_byte rfl (.tmp 118) (.tmp 117) rfl ga I Z (hpage h) (by rfl) (by rfl) RA.out (by rw [PX.out.1]; exact HBit.out.Il) ?_; intro wg hr ht; have Na8 : g8 ≠ ga := (fun e => blk_row_ne K8.out RA.out (by decide) e); have HB' := Lib.hid (HB.out.trans (ht.below HB.out.size (fun i hi => by subst hi; exact Hga.out))); have K8' := Lib.hid (K8.out.turn ht Na8); have RB' := Lib.hid (RB.out.turn ht (fun e => Hab.out e.symm)); have K15' := Lib.hid (K15.out.turn ht (fun e => NA.out e.symm)); have RA' := Lib.hid hr; clear hr ht cX HB K8 RB K15 RA K7 K13 K16 b1 b2 b3 b4 b5 b6 b7 b8 b9 Na8; have HB := HB'; have K8 := K8'; have RB := RB'; have K15 := K15'; have RA := RA'; clear HB' K8' RB' K15' RA'; have k0 := K15.out.cell 0; rw [show (#[.slice (some ⟨ga, 0, none⟩) 512 512, .slice (some ⟨gb, 0, none⟩) 512 512] : Array Value)[0]? = some (.slice (some ⟨ga, 0, none⟩) 512 512) from rfl] at k0; have k1 := K15.out.cell 1; rw [show (#[.slice (some ⟨ga, 0, none⟩) 512 512, .slice (some ⟨gb, 0, none⟩) 512 512] : Array Value)[1]? = some (.slice (some ⟨gb, 0, none⟩) 512 512) from rfl] at k1))
        refine (CP2.out _ _ wg (RA.out.ba (by rw [List.length_set]; exact PX.out.1) (PX.out.2.set I Z HBit.out.Yl)) (RB.out.ba PY.out.1 PY.out.2) (HW.out.below HB.out) (HM.out.below HB.out)).mono ?_
        rintro e u6 ⟨rfl, hb⟩
        replace HB := Lib.hid (HB.out.trans (Below.mono hb HB.out.size))
        replace K8 := Lib.hid (K8.out.ext hb)
        replace RB := Lib.hid (RB.out.ext hb)
        replace K15 := Lib.hid (K15.out.ext hb)
        clear hb
        clear k0 k1
        go_wp2_with (first
          | (show wpList _ _ _ (⟨some 19, _, _, _, _, _⟩ :: _) _ _; refine wpList_alloc_arr rfl HT rfl arrz_HT ?_; intro g19 wa19 hg19 hk19 hb19)
          | (refine wpList_store_agg rfl HT (.tmp 19) (.tmp 125) rfl g19 (hv Y) _ HT (by rfl) (by rfl) agg_HT hk19 (hv_size _) (hv_size _) (hv_one _) ?_; intro wv19 hj19 ht19 hs19; have bb19 : Ext u6 wv19 := hb19.trans (ht19.below hb19.size (fun i hi => by subst hi; exact hg19)); replace HB := Lib.hid (HB.out.trans (Below.mono bb19 HB.out.size)); replace K8 := Lib.hid (K8.out.ext bb19); replace RB := Lib.hid (RB.out.ext bb19); replace K15 := Lib.hid (K15.out.ext bb19); have K19 := Lib.hid hj19; have Q19 := Lib.hid hg19; clear hg19 hk19 hb19 hj19 ht19 hs19 bb19)
          | (refine wpList_load_agg_when (by rfl) HT (.tmp 8) rfl g8 0 (hv Y) (by rfl) agg_HT K8.out.at (hv_size _) ?_)
          | (refine wpList_load_agg_when (by rfl) HT (.tmp 19) rfl g19 0 (hv Y) (by rfl) agg_HT K19.out.at (hv_size _) ?_)
          | (refine wpList_eql_h_when (by rfl) (.tmp 130) (.tmp 131) _ rfl Y Y (by rfl) (by rfl) rfl ?_))
        refine (CSu.out wv19 (HG.out.below HB.out) (HW.out.below HB.out) (HM.out.below HB.out)).mono ?_
        rintro e u7 ⟨rfl, hb⟩
        replace HB := Lib.hid (HB.out.trans (Below.mono hb HB.out.size))
        replace K8 := Lib.hid (K8.out.ext hb)
        replace RB := Lib.hid (RB.out.ext hb)
        replace K15 := Lib.hid (K15.out.ext hb)
        replace K19 := Lib.hid (K19.out.ext hb)
        clear hb
        go_wp2
        go_ret
        exact ⟨rfl, HB.out⟩
      · have hp2 : Y.s % 2 = 0 := by omega
        rw [hp] at sl1
        rw [hp2] at sl2
        have HP := Lib.hid (And.intro hp hp2)
        clear hp hp2 ys
        have CP1 := Lib.hid (fun u v w e e' hT hM => pick_ba u v (hpage Y) (hpage h) w e e' hT hM)
        rw [hpick_newer1 HmX.out HmY.out HP.out.1 HYs.out] at CP1
        have CP2 := Lib.hid (fun u v w e e' hT hM => pick_ba u v (hpage Y) ((hpage h).set I Z) w e e' hT hM)
        rw [hpick_left HmY.out HP.out.2 (by rw [HTu.out]; decide)] at CP2
        dsimp only at CP1 CP2
        rw [errS_0] at CP1 CP2
        iterate 6 (refine wpGt_read (o := ⟨_, _, _, _, _, _⟩) (v := ?_) rfl (by rfl) ?_ ?_; rotate_left; (intro w' hw'; go_simp; with_reducible rfl); simp only [Act.put, List.setIfInBounds_toArray, List.set_cons_zero, List.set_cons_succ])
        clear q7 q8
        refine wpGt_call (o := ⟨_, _, _, _, _, _⟩) rfl (by rfl) (fun K hK => ?_)
        try go_simp
        refine sl1.mono ?_
        rintro e u ⟨rfl, rfl⟩
        refine hK _ _ (Turn.refl _ _) ?_
        clear hK K sl1
        try simp only [Act.put, List.setIfInBounds_toArray, List.set_cons_zero, List.set_cons_succ]
        (refine wpGt_read (o := ⟨_, _, _, _, _, _⟩) (v := ?_) rfl (by rfl) ?_ ?_; rotate_left; (intro w' hw'; go_simp; with_reducible rfl); simp only [Act.put, List.setIfInBounds_toArray, List.set_cons_zero, List.set_cons_succ])
        refine wpGt_call (o := ⟨_, _, _, _, _, _⟩) rfl (by rfl) (fun K hK => ?_)
        try go_simp
        refine sl2.mono ?_
        rintro e u ⟨rfl, rfl⟩
        refine hK _ _ (Turn.refl _ _) ?_
        clear hK K sl2
        try simp only [Act.put, List.setIfInBounds_toArray, List.set_cons_zero, List.set_cons_succ]
        refine wpGt_call (o := ⟨_, _, _, _, _, _⟩) rfl (by rfl) (fun K hK => ?_)
        refine wp_store_two (.tmp 70) (.tmp 68) rfl g15 1 #[.slice none 0 0, .slice none 0 0] T2 _ _ _ (by rfl) (by rfl) K15.out (by show 1 < 2; decide) ?_
        intro we hk ht
        refine hK _ _ ht ?_
        clear hK K
        simp only [Act.put]
        replace K7 := Lib.hid (K7.out.turn ht N7.out)
        replace K8 := Lib.hid (K8.out.turn ht N8.out)
        replace K13 := Lib.hid (K13.out.turn ht N13.out)
        replace RA := Lib.hid (RA.out.turn ht NA.out)
        replace RB := Lib.hid (RB.out.turn ht NB.out)
        replace HB := Lib.hid (HB.out.trans (ht.below HB.out.size (fun i hi => by subst hi; exact H15.out)))
        replace K15 := Lib.hid (show Blk we g15 T2 #[.slice none 0 0, .slice (some ⟨ga, 0, none⟩) 512 512] from hk)
        clear hk ht
        (refine wpGt_read (o := ⟨_, _, _, _, _, _⟩) (v := ?_) rfl (by rfl) ?_ ?_; rotate_left; (intro w' hw'; go_simp; with_reducible rfl); simp only [Act.put, List.setIfInBounds_toArray, List.set_cons_zero, List.set_cons_succ])
        refine wpGt_call (o := ⟨_, _, _, _, _, _⟩) rfl (by rfl) (fun K hK => ?_)
        refine wp_store_two (.tmp 71) (.tmp 69) rfl g15 0 #[.slice none 0 0, .slice (some ⟨ga, 0, none⟩) 512 512] T2 _ _ _ (by rfl) (by rfl) K15.out (by show 0 < 2; decide) ?_
        intro wf hk ht
        refine hK _ _ ht ?_
        clear hK K
        simp only [Act.put]
        replace K7 := Lib.hid (K7.out.turn ht N7.out)
        replace K8 := Lib.hid (K8.out.turn ht N8.out)
        replace K13 := Lib.hid (K13.out.turn ht N13.out)
        replace RA := Lib.hid (RA.out.turn ht NA.out)
        replace RB := Lib.hid (RB.out.turn ht NB.out)
        replace HB := Lib.hid (HB.out.trans (ht.below HB.out.size (fun i hi => by subst hi; exact H15.out)))
        replace K15 := Lib.hid (show Blk wf g15 T2 #[.slice (some ⟨gb, 0, none⟩) 512 512, .slice (some ⟨ga, 0, none⟩) 512 512] from hk)
        clear hk ht HBd
        refine wpGt_done ?_
        have k0 := K15.out.cell 0
        rw [show (#[.slice (some ⟨gb, 0, none⟩) 512 512, .slice (some ⟨ga, 0, none⟩) 512 512] : Array Value)[0]? = some (.slice (some ⟨gb, 0, none⟩) 512 512) from rfl] at k0
        have k1 := K15.out.cell 1
        rw [show (#[.slice (some ⟨gb, 0, none⟩) 512 512, .slice (some ⟨ga, 0, none⟩) 512 512] : Array Value)[1]? = some (.slice (some ⟨ga, 0, none⟩) 512 512) from rfl] at k1
        go_wp2_with fail
        refine (CP1.out _ _ wf (RB.out.ba PY.out.1 PY.out.2) (RA.out.ba PX.out.1 PX.out.2) (HW.out.below HB.out) (HM.out.below HB.out)).mono ?_
        rintro e u5 ⟨rfl, hb⟩
        replace HB := Lib.hid (HB.out.trans (Below.mono hb HB.out.size))
        replace K7 := Lib.hid (K7.out.ext hb)
        replace K8 := Lib.hid (K8.out.ext hb)
        replace RA := Lib.hid (RA.out.ext hb)
        replace RB := Lib.hid (RB.out.ext hb)
        replace K13 := Lib.hid (K13.out.ext hb)
        replace K15 := Lib.hid (K15.out.ext hb)
        clear hb
        clear k0 k1
        have b1 := HBit.out.eq
        have b2 := HBit.out.eP
        have b3 := HBit.out.eI
        have b4 := HBit.out.eJ
        have b5 := HBit.out.Pl
        have b6 := HBit.out.Il
        have b7 := HBit.out.Jl
        have b8 := HBit.out.Tl
        have b9 := HBit.out.eY
        go_wp2_with (first
          | (show wpList _ _ _ (⟨some 16, _, _, _, _, _⟩ :: _) _ _; refine wpList_alloc_arr rfl HT rfl arrz_HT ?_; intro g16 wa16 hg16 hk16 hb16)
          | (refine wpList_store_agg rfl HT (.tmp 16) (.tmp 78) rfl g16 (hv h) _ HT (by rfl) (by rfl) agg_HT hk16 (hv_size _) (hv_size _) (hv_one _) ?_; intro wv16 hj16 ht16 hs16; have bb16 : Ext u5 wv16 := hb16.trans (ht16.below hb16.size (fun i hi => by subst hi; exact hg16)); replace HB := Lib.hid (HB.out.trans (Below.mono bb16 HB.out.size)); replace K7 := Lib.hid (K7.out.ext bb16); replace K8 := Lib.hid (K8.out.ext bb16); replace RA := Lib.hid (RA.out.ext bb16); replace RB := Lib.hid (RB.out.ext bb16); replace K13 := Lib.hid (K13.out.ext bb16); replace K15 := Lib.hid (K15.out.ext bb16); have K16 := Lib.hid hj16; have Q16 := Lib.hid hg16; clear hg16 hk16 hb16 hj16 ht16 hs16 bb16; have cX := RA.out.cell I (by rw [PX.out.1]; exact HBit.out.Il); rw [← HBit.out.eX] at cX)
          | (refine wpList_load_agg_when (by rfl) HT (.tmp 7) rfl g7 0 (hv h) (by rfl) agg_HT K7.out.at (hv_size _) ?_)
          | (refine wpList_load_agg_when (by rfl) HT (.tmp 13) rfl g13 0 (hv h) (by rfl) agg_HT K13.out.at (hv_size _) ?_)
          | (refine wpList_load_agg_when (by rfl) HT (.tmp 16) rfl g16 0 (hv h) (by rfl) agg_HT K16.out.at (hv_size _) ?_)
          | (refine wpList_neq_h_when (by rfl) (.tmp 87) (.tmp 88) _ rfl h h (by rfl) (by rfl) rfl ?_)
          | (refine wpList_neq_h_when (by rfl) (.tmp 92) (.tmp 93) _ rfl h h (by rfl) (by rfl) rfl ?_)
          | (refine wpList_store_byte rfl (.tmp 118) (.tmp 117) rfl ga I Z (hpage h) (by rfl) (by rfl) RA.out (by rw [PX.out.1]; exact HBit.out.Il) ?_; intro wg hr ht; have Na8 : g8 ≠ ga := (fun e => blk_row_ne K8.out RA.out (by decide) e); have HB' := Lib.hid (HB.out.trans (ht.below HB.out.size (fun i hi => by subst hi; exact Hga.out))); have K8' := Lib.hid (K8.out.turn ht Na8); have RB' := Lib.hid (RB.out.turn ht (fun e => Hab.out e.symm)); have K15' := Lib.hid (K15.out.turn ht (fun e => NA.out e.symm)); have RA' := Lib.hid hr; clear hr ht cX HB K8 RB K15 RA K7 K13 K16 b1 b2 b3 b4 b5 b6 b7 b8 b9 Na8; have HB := HB'; have K8 := K8'; have RB := RB'; have K15 := K15'; have RA := RA'; clear HB' K8' RB' K15' RA'; have k0 := K15.out.cell 0; rw [show (#[.slice (some ⟨gb, 0, none⟩) 512 512, .slice (some ⟨ga, 0, none⟩) 512 512] : Array Value)[0]? = some (.slice (some ⟨gb, 0, none⟩) 512 512) from rfl] at k0; have k1 := K15.out.cell 1; rw [show (#[.slice (some ⟨gb, 0, none⟩) 512 512, .slice (some ⟨ga, 0, none⟩) 512 512] : Array Value)[1]? = some (.slice (some ⟨ga, 0, none⟩) 512 512) from rfl] at k1))
        refine (CP2.out _ _ wg (RB.out.ba PY.out.1 PY.out.2) (RA.out.ba (by rw [List.length_set]; exact PX.out.1) (PX.out.2.set I Z HBit.out.Yl)) (HW.out.below HB.out) (HM.out.below HB.out)).mono ?_
        rintro e u6 ⟨rfl, hb⟩
        replace HB := Lib.hid (HB.out.trans (Below.mono hb HB.out.size))
        replace K8 := Lib.hid (K8.out.ext hb)
        replace RB := Lib.hid (RB.out.ext hb)
        replace K15 := Lib.hid (K15.out.ext hb)
        clear hb
        clear k0 k1
        go_wp2_with (first
          | (show wpList _ _ _ (⟨some 19, _, _, _, _, _⟩ :: _) _ _; refine wpList_alloc_arr rfl HT rfl arrz_HT ?_; intro g19 wa19 hg19 hk19 hb19)
          | (refine wpList_store_agg rfl HT (.tmp 19) (.tmp 125) rfl g19 (hv Y) _ HT (by rfl) (by rfl) agg_HT hk19 (hv_size _) (hv_size _) (hv_one _) ?_; intro wv19 hj19 ht19 hs19; have bb19 : Ext u6 wv19 := hb19.trans (ht19.below hb19.size (fun i hi => by subst hi; exact hg19)); replace HB := Lib.hid (HB.out.trans (Below.mono bb19 HB.out.size)); replace K8 := Lib.hid (K8.out.ext bb19); replace RB := Lib.hid (RB.out.ext bb19); replace K15 := Lib.hid (K15.out.ext bb19); have K19 := Lib.hid hj19; have Q19 := Lib.hid hg19; clear hg19 hk19 hb19 hj19 ht19 hs19 bb19)
          | (refine wpList_load_agg_when (by rfl) HT (.tmp 8) rfl g8 0 (hv Y) (by rfl) agg_HT K8.out.at (hv_size _) ?_)
          | (refine wpList_load_agg_when (by rfl) HT (.tmp 19) rfl g19 0 (hv Y) (by rfl) agg_HT K19.out.at (hv_size _) ?_)
          | (refine wpList_eql_h_when (by rfl) (.tmp 130) (.tmp 131) _ rfl Y Y (by rfl) (by rfl) rfl ?_))
        refine (CSu.out wv19 (HG.out.below HB.out) (HW.out.below HB.out) (HM.out.below HB.out)).mono ?_
        rintro e u7 ⟨rfl, hb⟩
        replace HB := Lib.hid (HB.out.trans (Below.mono hb HB.out.size))
        replace K8 := Lib.hid (K8.out.ext hb)
        replace RB := Lib.hid (RB.out.ext hb)
        replace K15 := Lib.hid (K15.out.ext hb)
        replace K19 := Lib.hid (K19.out.ext hb)
        clear hb
        go_wp2
        go_ret
        exact ⟨rfl, HB.out⟩
  · skip
    rw [hE_no hm1, errS_1] at CC
    clear hm1 HN HF
    go_enter Tryd.func4, Tryd.ntmps4
    go_wp2_with (first
      | (refine wpList_box_arr rfl RHT (.tmp 0) rfl (hv h) (by rfl) ?_; intro g3 w1 hg3 hk3 hb3)
      | (refine wpList_box_arr rfl T16 (.tmp 1) rfl #[.int .u16 n, .int .u16 m] (by rfl) ?_; intro g4 w2 hg4 hk4 hb4; have bb : Ext w w2 := hb3.trans (Below.mono hb4 hb3.size); replace HB := Lib.hid (HB.out.trans (Below.mono bb HB.out.size)); have K3 := Lib.hid (hk3.ext hb4); have K4 := Lib.hid hk4; clear hg3 hk3 hb3 hg4 hk4 hb4 bb)
      | (refine wpList_load_agg rfl RHT (.tmp 3) rfl g3 0 (hv h) (by rfl) agg_RHT K3.out.at (hv_size _) ?_)
      | (show wpList _ _ _ (⟨some 7, _, _, _, _, _⟩ :: _) _ _; refine wpList_alloc_arr rfl HT rfl arrz_HT ?_; intro g7 wa7 hg7 hk7 hb7)
      | (refine wpList_store_agg rfl HT (.tmp 7) (.tmp 21) rfl g7 (hv h) _ HT (by rfl) (by rfl) agg_HT hk7 (hv_size _) (hv_size _) (hv_one _) ?_; intro wv7 hj7 ht7 hs7; have bb7 : Ext w2 wv7 := hb7.trans (ht7.below hb7.size (fun i hi => by subst hi; exact hg7)); replace HB := Lib.hid (HB.out.trans (Below.mono bb7 HB.out.size)); replace K4 := Lib.hid (K4.out.ext bb7); have K7 := Lib.hid hj7; have Q7 := Lib.hid hg7; clear hg7 hk7 hb7 hj7 ht7 hs7 bb7)
      | (refine wpList_load_agg rfl HT (.tmp 7) rfl g7 0 (hv h) (by rfl) agg_HT K7.out.at (hv_size _) ?_))
    refine (CC.out wv7 (HM.out.below HB.out)).mono ?_
    rintro e u1 ⟨rfl, hb⟩
    replace HB := Lib.hid (HB.out.trans (Below.mono hb HB.out.size))
    replace K4 := Lib.hid (K4.out.ext hb)
    replace K7 := Lib.hid (K7.out.ext hb)
    clear hb
    go_wp2_with fail
    refine (CSu.out u1 (HG.out.below HB.out) (HW.out.below HB.out) (HM.out.below HB.out)).mono ?_
    rintro e u2 ⟨rfl, hb⟩
    replace HB := Lib.hid (HB.out.trans (Below.mono hb HB.out.size))
    replace K4 := Lib.hid (K4.out.ext hb)
    replace K7 := Lib.hid (K7.out.ext hb)
    clear hb
    go_wp2
    go_ret
    exact ⟨rfl, HB.out⟩
end Go.Proofs.YtofbomcimicccaaDoor
