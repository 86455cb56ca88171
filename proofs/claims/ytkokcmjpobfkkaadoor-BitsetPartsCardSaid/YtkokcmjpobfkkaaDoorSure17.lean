/-
  The law's sure.
-/
import Derived.Test.YtkokcmjpobfkkaaDoorBit6
import Derived.Test.YtkokcmjpobfkkaaDoorNum2
namespace Go.Proofs.YtkokcmjpobfkkaaDoor
open Go Go.RowKit

def zS (m : Nat) : Bool := withR (belowR 3) 70 m
theorem zS_cnt : cnt zS 1024 = 4 := by decide +kernel
theorem zT_cnt : cnt (takeR zS 2) 1024 = 2 := by decide +kernel
theorem zS_wd : wd zS 1 = 64 := by decide +kernel
theorem zS_el : el zS 1 = 1 := (el_only (f := zS) (i := 1) (m := 1) (by rw [zS_cnt]; omega) (by decide +kernel) (by decide +kernel)).symm
theorem zS_ia : ia (eI zS 1024) 1 = 1 := by rw [eI_ia zS 1 (by rw [zS_cnt]; omega), zS_el]; rfl
theorem zS_len : (eI zS 1024).length = 4 := (eI_len zS 1024).trans zS_cnt
theorem zS_tk (l : List Int) (h : ia l 1 = 1) (h4 : l.length = 4) : (l.take 2).length = 2 ∧ ia (l.take 2) 1 = 1 := by
  refine ⟨by rw [List.length_take, h4]; rfl, ?_⟩
  rw [← h, ia, ia, List.getD_eq_getElem?_getD, List.getD_eq_getElem?_getD, List.getElem?_take, if_pos (by omega)]
set_option maxRecDepth 100000 in
set_option maxHeartbeats 1000000 in
theorem zsure_any (w : World) (hg : Hg w) (hT : TabIn w) : Calls Tryd.prog 18 #[] w fun e w' => e = .returned (.bool true) ∧ Below w.heap.size w w' := by
  have HG := Lib.hid hg
  have HT := Lib.hid hT
  have HB := Lib.hid (Below.refl w.heap.size w)
  have C1 := Lib.hid (fun w => below_any 3 w (by omega))
  have C2 := Lib.hid (fun w => with_any (belowR 3) 70 w)
  have C3 := Lib.hid (fun w h => take_yes zS 2 4 w zS_cnt (by omega) (by omega) h)
  have C4 := Lib.hid (fun w => take_many zS 5 w (by rw [zS_cnt]; omega))
  have C5 := Lib.hid (fun w => count_any zS w)
  have C6 := Lib.hid (fun w => has_any zS 70 w)
  have C7 := Lib.hid (fun w => has_any zS 3 w)
  have C8 := Lib.hid (fun w => count_any (takeR zS 2) w)
  have C9 := Lib.hid (fun w => with_any zS (-1) w)
  have hw9 := withR_out zS (-1) (by omega)
  rw [zS_cnt] at C5
  rw [zT_cnt] at C8
  rw [show inB zS 70 = true by decide +kernel] at C6
  rw [show inB zS 3 = false by decide +kernel] at C7
  have htk := zS_tk _ zS_ia zS_len
  have hw1 := zS_wd
  rw [← hw9] at C9
  rw [show withR (belowR 3) 70 = zS from rfl] at C2
  generalize eI zS 1024 = L at *
  generalize takeR zS 2 = T at *
  generalize belowR 3 = F0 at *
  generalize zS = S at *
  have Htk := Lib.hid htk
  have Hw1 := Lib.hid hw1
  clear hg hT htk hw1 hw9
  go_enter Tryd.func18, Tryd.ntmps18
  go_wp2_with fail
  refine (C1.out w).mono ?_
  rintro e u1 ⟨rfl, hb⟩
  replace HB := Lib.hid (HB.out.trans (hb.mono HB.out.size))
  replace HG := Lib.hid (HG.out.below hb)
  replace HT := Lib.hid (HT.out.below hb)
  clear hb
  go_wp2_with fail
  refine (C2.out u1).mono ?_
  rintro e u2 ⟨rfl, hb⟩
  replace HB := Lib.hid (HB.out.trans (hb.mono HB.out.size))
  replace HG := Lib.hid (HG.out.below hb)
  replace HT := Lib.hid (HT.out.below hb)
  clear hb
  go_wp2_with (first
    | (show wpList _ _ _ (⟨some 1, _, _, _, _, _⟩ :: _) _ _; refine wpList_alloc_arr rfl TS rfl arrz_TS ?_; intro g1 v1 hg1 hk1 hb1)
    | (show wpList _ _ _ (⟨none, _, _, _, _, _⟩ :: _) _ _; refine wpList_store_sc rfl TS (.tmp 1) (.tmp 9) rfl g1 S _ TS (by rfl) (by rfl) arr_TS hk1 ?_; intro v2 hk2 ht2 _)
    | (show wpList _ _ _ (⟨some 11, _, _, _, _, _⟩ :: _) _ _; refine wpList_load_sc rfl TS (.tmp 1) rfl g1 S TS (by rfl) arr_TS hk2 ?_))
  have hb : Ext u2 v2 := hb1.trans (ht2.below hb1.size (fun i hi => by subst hi; exact hg1))
  replace HB := Lib.hid (HB.out.trans (hb.mono HB.out.size))
  replace HG := Lib.hid (HG.out.below hb)
  replace HT := Lib.hid (HT.out.below hb)
  have K1 := Lib.hid hk2
  clear hb hk1 hk2 hg1 hb1 ht2
  refine (C3.out v2 HT.out).mono ?_
  rintro e u3 ⟨pa, rfl, hp, hb⟩
  have HP := Lib.hid hp
  clear hp
  replace HB := Lib.hid (HB.out.trans (hb.mono HB.out.size))
  replace HG := Lib.hid (HG.out.below hb)
  replace HT := Lib.hid (HT.out.below hb)
  replace K1 := Lib.hid (K1.out.ext hb)
  clear hb
  go_wp2_with (first
    | (show wpList _ _ _ (⟨some 3, _, _, _, _, _⟩ :: _) _ _; refine wpList_alloc_arr rfl TS rfl arrz_TS ?_; intro g2 v1 hg1 hk1 hb1)
    | (show wpList _ _ _ (⟨none, _, _, _, _, _⟩ :: _) _ _; refine wpList_store_sc rfl TS (.tmp 3) (.tmp 14) rfl g2 T _ TS (by rfl) (by rfl) arr_TS hk1 ?_; intro v2 hk2 ht2 _)
    | (show wpList _ _ _ (⟨some 17, _, _, _, _, _⟩ :: _) _ _; refine wpList_load_sc rfl TS (.tmp 1) rfl g1 S TS (by rfl) arr_TS ((K1.out.ext hb1).turn ht2 (fun e => by have := K1.out.lt; omega)) ?_))
  have hb : Ext u3 v2 := hb1.trans (ht2.below hb1.size (fun i hi => by subst hi; exact hg1))
  replace HB := Lib.hid (HB.out.trans (hb.mono HB.out.size))
  replace HG := Lib.hid (HG.out.below hb)
  replace HT := Lib.hid (HT.out.below hb)
  replace K1 := Lib.hid (K1.out.ext hb)
  replace HP := Lib.hid (HP.out.below hb (Nat.le_refl _))
  have K2 := Lib.hid hk2
  clear hb hk1 hk2 hg1 hb1 ht2
  refine (C4.out v2).mono ?_
  rintro e u4 ⟨rfl, hb⟩
  replace HB := Lib.hid (HB.out.trans (hb.mono HB.out.size))
  replace HG := Lib.hid (HG.out.below hb)
  replace HT := Lib.hid (HT.out.below hb)
  replace K1 := Lib.hid (K1.out.ext hb)
  replace HP := Lib.hid (HP.out.below hb (Nat.le_refl _))
  replace K2 := Lib.hid (K2.out.ext hb)
  clear hb
  go_wp2_with (first
    | (show wpList _ _ _ (⟨some 6, _, _, _, _, _⟩ :: _) _ _; refine wpList_alloc_arr rfl TS rfl arrz_TS ?_; intro g3 v1 hg1 hk1 hb1)
    | (show wpList _ _ _ (⟨none, _, _, _, _, _⟩ :: _) _ _; refine wpList_store_sc rfl TS (.tmp 6) (.tmp 20) rfl g3 _ _ TS (by rfl) (by rfl) arr_TS hk1 ?_; intro v2 hk2 ht2 _))
  have hb : Ext u4 v2 := hb1.trans (ht2.below hb1.size (fun i hi => by subst hi; exact hg1))
  replace HB := Lib.hid (HB.out.trans (hb.mono HB.out.size))
  replace HG := Lib.hid (HG.out.below hb)
  replace HT := Lib.hid (HT.out.below hb)
  replace K1 := Lib.hid (K1.out.ext hb)
  replace HP := Lib.hid (HP.out.below hb (Nat.le_refl _))
  replace K2 := Lib.hid (K2.out.ext hb)
  clear hb hk1 hk2 hg1 hb1 ht2
  have q8 : IntKind.i64.wrap 1 = 1 := rfl
  refine wp_region_gr [(0, true), (1, false), (2, true), (3, true), (4, true), (5, false), (6, true), (7, true), (8, true), (9, false), (10, true), (11, true), (12, true), (13, true), (14, true), (15, true), (16, true), (17, true), (18, true), (19, true), (20, true), (21, true), (22, true), (23, true), (24, true), (25, true), (26, true), (27, true), (28, true), (29, false), (30, true), (31, true), (32, true), (33, true), (34, false), (35, true), (36, true), (37, true), (38, true), (40, true), (39, false), (41, true), (42, true), (43, true), (44, true), (45, true), (46, true), (47, true), (48, true)] (by kernel_rfl) (by kernel_rfl) (by kernel_rfl) (by kernel_rfl) (fun _ _ _ _ _ h => h) ?_
  have hb : Ext v2 v2.drew := Ext.drew _
  replace HB := Lib.hid (HB.out.trans (hb.mono HB.out.size))
  replace HG := Lib.hid (HG.out.below hb)
  replace HT := Lib.hid (HT.out.below hb)
  replace K1 := Lib.hid (K1.out.ext hb)
  replace HP := Lib.hid (HP.out.below hb (Nat.le_refl _))
  replace K2 := Lib.hid (K2.out.ext hb)
  clear hb
  generalize v2.drew = u5 at *
  refine wpGr_read (o := ⟨_, _, _, _, _, _⟩) (v := .agg (sc S)) rfl (by rfl) (fun w' hw' => rd_load_sc TS (.tmp 1) rfl g1 S TS (by rfl) arr_TS (K1.out.ext hw')) ?_
  simp only [Act.put, List.setIfInBounds_toArray, List.set_cons_zero, List.set_cons_succ]
  refine wpGr_call (o := ⟨_, _, _, _, _, _⟩) rfl (by rfl) (fun K hK => ?_)
  go_simp
  refine (C5.out u5).mono ?_
  rintro e u6 ⟨rfl, hb⟩
  refine hK _ _ hb ?_
  clear hK K
  replace HB := Lib.hid (HB.out.trans (hb.mono HB.out.size))
  replace HG := Lib.hid (HG.out.below hb)
  replace HT := Lib.hid (HT.out.below hb)
  replace K1 := Lib.hid (K1.out.ext hb)
  replace HP := Lib.hid (HP.out.below hb (Nat.le_refl _))
  replace K2 := Lib.hid (K2.out.ext hb)
  clear hb
  iterate 2 (refine wpGr_read (o := ⟨_, _, _, _, _, _⟩) (v := ?_) rfl (by rfl) ?_ ?_; rotate_left; (intro w' hw'; go_simp; with_reducible rfl); simp only [Act.put, List.setIfInBounds_toArray, List.set_cons_zero, List.set_cons_succ])
  refine wpGr_read (o := ⟨_, _, _, _, _, _⟩) (v := .agg (sc S)) rfl (by rfl) (fun w' hw' => rd_load_sc TS (.tmp 1) rfl g1 S TS (by rfl) arr_TS (K1.out.ext hw')) ?_
  simp only [Act.put, List.setIfInBounds_toArray, List.set_cons_zero, List.set_cons_succ]
  refine wpGr_call (o := ⟨_, _, _, _, _, _⟩) rfl (by rfl) (fun K hK => ?_)
  go_simp
  refine (C6.out u6).mono ?_
  rintro e u7 ⟨rfl, hb⟩
  refine hK _ _ hb ?_
  clear hK K
  replace HB := Lib.hid (HB.out.trans (hb.mono HB.out.size))
  replace HG := Lib.hid (HG.out.below hb)
  replace HT := Lib.hid (HT.out.below hb)
  replace K1 := Lib.hid (K1.out.ext hb)
  replace HP := Lib.hid (HP.out.below hb (Nat.le_refl _))
  replace K2 := Lib.hid (K2.out.ext hb)
  clear hb
  iterate 2 (refine wpGr_read (o := ⟨_, _, _, _, _, _⟩) (v := ?_) rfl (by rfl) ?_ ?_; rotate_left; (intro w' hw'; go_simp; with_reducible rfl); simp only [Act.put, List.setIfInBounds_toArray, List.set_cons_zero, List.set_cons_succ])
  refine wpGr_read (o := ⟨_, _, _, _, _, _⟩) (v := .agg (sc S)) rfl (by rfl) (fun w' hw' => rd_load_sc TS (.tmp 1) rfl g1 S TS (by rfl) arr_TS (K1.out.ext hw')) ?_
  simp only [Act.put, List.setIfInBounds_toArray, List.set_cons_zero, List.set_cons_succ]
  refine wpGr_call (o := ⟨_, _, _, _, _, _⟩) rfl (by rfl) (fun K hK => ?_)
  go_simp
  refine (C7.out u7).mono ?_
  rintro e u8 ⟨rfl, hb⟩
  refine hK _ _ hb ?_
  clear hK K
  replace HB := Lib.hid (HB.out.trans (hb.mono HB.out.size))
  replace HG := Lib.hid (HG.out.below hb)
  replace HT := Lib.hid (HT.out.below hb)
  replace K1 := Lib.hid (K1.out.ext hb)
  replace HP := Lib.hid (HP.out.below hb (Nat.le_refl _))
  replace K2 := Lib.hid (K2.out.ext hb)
  clear hb
  obtain ⟨ga, oa, ea, hc⟩ := HP.out (by rw [Htk.out.1]; omega)
  have hc1 := hc 1 (by rw [Htk.out.1]; omega)
  rw [Htk.out.2] at hc1
  have hce : ∀ w', Ext u8 w' → w'.cell? ⟨ga, oa + 1, none⟩ = some (.int .i64 1) := fun w' he => (he.cell (p := ⟨ga, oa + 1, none⟩) (block_lt_of_cell hc1)).trans hc1
  clear hc
  subst ea
  iterate 18 (refine wpGr_read (o := ⟨_, _, _, _, _, _⟩) (v := ?_) rfl (by rfl) ?_ ?_; rotate_left; (intro w' hw'; go_simp; with_reducible rfl); simp only [Act.put, List.setIfInBounds_toArray, List.set_cons_zero, List.set_cons_succ])
  clear hce hc1
  refine wpGr_read (o := ⟨_, _, _, _, _, _⟩) (v := .agg (sc T)) rfl (by rfl) (fun w' hw' => rd_load_sc TS (.tmp 3) rfl g2 T TS (by rfl) arr_TS (K2.out.ext hw')) ?_
  simp only [Act.put, List.setIfInBounds_toArray, List.set_cons_zero, List.set_cons_succ]
  refine wpGr_call (o := ⟨_, _, _, _, _, _⟩) rfl (by rfl) (fun K hK => ?_)
  go_simp
  refine (C8.out u8).mono ?_
  rintro e u9 ⟨rfl, hb⟩
  refine hK _ _ hb ?_
  clear hK K
  replace HB := Lib.hid (HB.out.trans (hb.mono HB.out.size))
  replace HG := Lib.hid (HG.out.below hb)
  replace HT := Lib.hid (HT.out.below hb)
  replace K1 := Lib.hid (K1.out.ext hb)
  replace HP := Lib.hid (HP.out.below hb (Nat.le_refl _))
  replace K2 := Lib.hid (K2.out.ext hb)
  clear hb
  iterate 4 (refine wpGr_read (o := ⟨_, _, _, _, _, _⟩) (v := ?_) rfl (by rfl) ?_ ?_; rotate_left; (intro w' hw'; go_simp; with_reducible rfl); simp only [Act.put, List.setIfInBounds_toArray, List.set_cons_zero, List.set_cons_succ])
  refine wpGr_call (o := ⟨_, _, _, _, _, _⟩) rfl (by rfl) (fun K hK => ?_)
  go_simp
  refine (num_any (errC 8) 8 u9 (errC_is 8) HG.out).mono ?_
  rintro e u10 ⟨rfl, hb⟩
  refine hK _ _ hb ?_
  clear hK K
  replace HB := Lib.hid (HB.out.trans (hb.mono HB.out.size))
  replace HG := Lib.hid (HG.out.below hb)
  replace HT := Lib.hid (HT.out.below hb)
  replace K1 := Lib.hid (K1.out.ext hb)
  replace HP := Lib.hid (HP.out.below hb (Nat.le_refl _))
  replace K2 := Lib.hid (K2.out.ext hb)
  clear hb
  iterate 3 (refine wpGr_read (o := ⟨_, _, _, _, _, _⟩) (v := ?_) rfl (by rfl) ?_ ?_; rotate_left; (intro w' hw'; go_simp; with_reducible rfl); simp only [Act.put, List.setIfInBounds_toArray, List.set_cons_zero, List.set_cons_succ])
  refine wpGr_read (o := ⟨_, _, _, _, _, _⟩) (v := .agg (sc S)) rfl (by rfl) (fun w' hw' => rd_load_sc TS (.tmp 1) rfl g1 S TS (by rfl) arr_TS (K1.out.ext hw')) ?_
  simp only [Act.put, List.setIfInBounds_toArray, List.set_cons_zero, List.set_cons_succ]
  refine wpGr_read (o := ⟨_, _, _, _, _, _⟩) (v := .agg (sc S)) rfl (by rfl) (fun w' hw' => rd_load_sc TS (.tmp 1) rfl g1 S TS (by rfl) arr_TS (K1.out.ext hw')) ?_
  simp only [Act.put, List.setIfInBounds_toArray, List.set_cons_zero, List.set_cons_succ]
  refine wpGr_call (o := ⟨_, _, _, _, _, _⟩) rfl (by rfl) (fun K hK => ?_)
  go_simp
  refine (C9.out u10).mono ?_
  rintro e u11 ⟨rfl, hb⟩
  refine hK _ _ hb ?_
  clear hK K
  replace HB := Lib.hid (HB.out.trans (hb.mono HB.out.size))
  replace HG := Lib.hid (HG.out.below hb)
  replace HT := Lib.hid (HT.out.below hb)
  replace K1 := Lib.hid (K1.out.ext hb)
  replace HP := Lib.hid (HP.out.below hb (Nat.le_refl _))
  replace K2 := Lib.hid (K2.out.ext hb)
  clear hb
  refine wpGr_read (o := ⟨_, _, _, _, _, _⟩) (v := .bool true) rfl (by rfl) (fun w' _ => rd_eql_sc (.tmp 61) (.tmp 62) TS rfl S S (by rfl) (by rfl) rfl) ?_
  simp only [Act.put, List.setIfInBounds_toArray, List.set_cons_zero, List.set_cons_succ]
  have hce : ∀ w', Ext u11 w' → w'.cell? ⟨g1, 1, none⟩ = some (.int .u64 64) := fun w' he => by
    have := (K1.out.ext he).word 1 (by omega)
    rw [Hw1.out] at this; exact this
  iterate 7 (refine wpGr_read (o := ⟨_, _, _, _, _, _⟩) (v := ?_) rfl (by rfl) ?_ ?_; rotate_left; (intro w' hw'; go_simp; with_reducible rfl); simp only [Act.put, List.setIfInBounds_toArray, List.set_cons_zero, List.set_cons_succ])
  refine wpGr_done ?_
  go_wp2
  go_ret
  exact ⟨rfl, HB.out⟩
end Go.Proofs.YtkokcmjpobfkkaaDoor
