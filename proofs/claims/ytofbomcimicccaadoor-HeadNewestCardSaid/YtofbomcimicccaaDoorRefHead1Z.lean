/-
  The document's May, Encode (mkrefh.py).
-/
import Derived.Test.YtofbomcimicccaaDoorHdArmZ
import Derived.Test.YtofbomcimicccaaDoorRefSheetZ
import Derived.Test.YtofbomcimicccaaDoorRefVPutZ
import Derived.Test.YtofbomcimicccaaDoorAsZ
namespace Go.Proofs.YtofbomcimicccaaDoor
open Go Go.RowKit

set_option maxRecDepth 100000 in
theorem refMay_any (h : Hd) (w : World) : Calls Tryd.prog 15 #[.agg (hv h)] w fun e w' => e = .returned (.bool (hmayB h)) ∧ Below w.heap.size w w' := by
  by_cases s0 : h.s ≤ B62
  · have ds0 : decide ((4611686018427387904 : Int) < (h.s : Int)) = false := decide_eq_false (by unfold B62 at *; omega)
    by_cases s1 : h.t ≤ B62
    · have ds1 : decide ((4611686018427387904 : Int) < (h.t : Int)) = false := decide_eq_false (by unfold B62 at *; omega)
      by_cases s2 : h.g ≤ B62
      · have ds2 : decide ((4611686018427387904 : Int) < (h.g : Int)) = false := decide_eq_false (by unfold B62 at *; omega)
        by_cases s3 : 0 ≤ h.e
        · have ds3 : decide (h.e < 0) = false := decide_eq_false (by unfold B62 at *; omega)
          by_cases s4 : h.e ≤ 4096
          · have ds4 : decide (4096 < h.e) = false := decide_eq_false (by unfold B62 at *; omega)
            by_cases z0 : h.e = 0
            · have dz : (h.e == 0) = true := by rw [beq_iff_eq]; exact z0
              by_cases z1 : h.r = 0
              · have dy : (h.r == 0) = true := by rw [beq_iff_eq]; exact z1
                have e1 : hmayB h = true := (hmayB_iff h).2 (by unfold HMay; omega)
                rw [e1]
                clear s0 s1 s2 s3 s4 z0 z1 e1
                go_enter Tryd.func15, Tryd.ntmps15
                go_wp2_with (refine wpList_box_arr rfl RHT (.tmp 0) rfl (hv h) (by rfl) ?_; intro g1 w1 hg1 hk1 hb1; have q0 := hk1.h0; have q1 := hk1.h1; have q2 := hk1.h2; have q3 := hk1.h3; have q4 := hk1.h4)
                go_ret
                exact ⟨rfl, hb1⟩
              · have dy : (h.r == 0) = false := by rw [beq_eq_false_iff_ne]; exact z1
                have e1 : hmayB h = false := (hmayB_not h).2 (by unfold HMay; omega)
                rw [e1]
                clear s0 s1 s2 s3 s4 z0 z1 e1
                go_enter Tryd.func15, Tryd.ntmps15
                go_wp2_with (refine wpList_box_arr rfl RHT (.tmp 0) rfl (hv h) (by rfl) ?_; intro g1 w1 hg1 hk1 hb1; have q0 := hk1.h0; have q1 := hk1.h1; have q2 := hk1.h2; have q3 := hk1.h3; have q4 := hk1.h4)
                go_ret
                exact ⟨rfl, hb1⟩
            · have dz : (h.e == 0) = false := by rw [beq_eq_false_iff_ne]; exact z0
              by_cases z1 : 2 ≤ h.r
              · have dy : decide (2 ≤ h.r) = true := decide_eq_true z1
                by_cases z2 : h.r ≤ 1023
                · have dx : decide (h.r ≤ 1023) = true := decide_eq_true z2
                  have e1 : hmayB h = true := (hmayB_iff h).2 (by unfold HMay; omega)
                  rw [e1]
                  clear s0 s1 s2 s3 s4 z0 z1 z2 e1
                  go_enter Tryd.func15, Tryd.ntmps15
                  go_wp2_with (refine wpList_box_arr rfl RHT (.tmp 0) rfl (hv h) (by rfl) ?_; intro g1 w1 hg1 hk1 hb1; have q0 := hk1.h0; have q1 := hk1.h1; have q2 := hk1.h2; have q3 := hk1.h3; have q4 := hk1.h4)
                  go_ret
                  exact ⟨rfl, hb1⟩
                · have dx : decide (h.r ≤ 1023) = false := decide_eq_false z2
                  have e1 : hmayB h = false := (hmayB_not h).2 (by unfold HMay; omega)
                  rw [e1]
                  clear s0 s1 s2 s3 s4 z0 z1 z2 e1
                  go_enter Tryd.func15, Tryd.ntmps15
                  go_wp2_with (refine wpList_box_arr rfl RHT (.tmp 0) rfl (hv h) (by rfl) ?_; intro g1 w1 hg1 hk1 hb1; have q0 := hk1.h0; have q1 := hk1.h1; have q2 := hk1.h2; have q3 := hk1.h3; have q4 := hk1.h4)
                  go_ret
                  exact ⟨rfl, hb1⟩
              · have dy : decide (2 ≤ h.r) = false := decide_eq_false z1
                have e1 : hmayB h = false := (hmayB_not h).2 (by unfold HMay; omega)
                rw [e1]
                clear s0 s1 s2 s3 s4 z0 z1 e1
                go_enter Tryd.func15, Tryd.ntmps15
                go_wp2_with (refine wpList_box_arr rfl RHT (.tmp 0) rfl (hv h) (by rfl) ?_; intro g1 w1 hg1 hk1 hb1; have q0 := hk1.h0; have q1 := hk1.h1; have q2 := hk1.h2; have q3 := hk1.h3; have q4 := hk1.h4)
                go_ret
                exact ⟨rfl, hb1⟩
          · have ds4 : decide (4096 < h.e) = true := decide_eq_true (by unfold B62 at *; omega)
            have e1 : hmayB h = false := (hmayB_not h).2 (by unfold HMay; omega)
            rw [e1]
            clear s0 s1 s2 s3 s4 e1
            go_enter Tryd.func15, Tryd.ntmps15
            go_wp2_with (refine wpList_box_arr rfl RHT (.tmp 0) rfl (hv h) (by rfl) ?_; intro g1 w1 hg1 hk1 hb1; have q0 := hk1.h0; have q1 := hk1.h1; have q2 := hk1.h2; have q3 := hk1.h3; have q4 := hk1.h4)
            go_ret
            exact ⟨rfl, hb1⟩
        · have ds3 : decide (h.e < 0) = true := decide_eq_true (by unfold B62 at *; omega)
          have e1 : hmayB h = false := (hmayB_not h).2 (by unfold HMay; omega)
          rw [e1]
          clear s0 s1 s2 s3 e1
          go_enter Tryd.func15, Tryd.ntmps15
          go_wp2_with (refine wpList_box_arr rfl RHT (.tmp 0) rfl (hv h) (by rfl) ?_; intro g1 w1 hg1 hk1 hb1; have q0 := hk1.h0; have q1 := hk1.h1; have q2 := hk1.h2; have q3 := hk1.h3; have q4 := hk1.h4)
          go_ret
          exact ⟨rfl, hb1⟩
      · have ds2 : decide ((4611686018427387904 : Int) < (h.g : Int)) = true := decide_eq_true (by unfold B62 at *; omega)
        have e1 : hmayB h = false := (hmayB_not h).2 (by unfold HMay; omega)
        rw [e1]
        clear s0 s1 s2 e1
        go_enter Tryd.func15, Tryd.ntmps15
        go_wp2_with (refine wpList_box_arr rfl RHT (.tmp 0) rfl (hv h) (by rfl) ?_; intro g1 w1 hg1 hk1 hb1; have q0 := hk1.h0; have q1 := hk1.h1; have q2 := hk1.h2; have q3 := hk1.h3; have q4 := hk1.h4)
        go_ret
        exact ⟨rfl, hb1⟩
    · have ds1 : decide ((4611686018427387904 : Int) < (h.t : Int)) = true := decide_eq_true (by unfold B62 at *; omega)
      have e1 : hmayB h = false := (hmayB_not h).2 (by unfold HMay; omega)
      rw [e1]
      clear s0 s1 e1
      go_enter Tryd.func15, Tryd.ntmps15
      go_wp2_with (refine wpList_box_arr rfl RHT (.tmp 0) rfl (hv h) (by rfl) ?_; intro g1 w1 hg1 hk1 hb1; have q0 := hk1.h0; have q1 := hk1.h1; have q2 := hk1.h2; have q3 := hk1.h3; have q4 := hk1.h4)
      go_ret
      exact ⟨rfl, hb1⟩
  · have ds0 : decide ((4611686018427387904 : Int) < (h.s : Int)) = true := decide_eq_true (by unfold B62 at *; omega)
    have e1 : hmayB h = false := (hmayB_not h).2 (by unfold HMay; omega)
    rw [e1]
    clear s0 e1
    go_enter Tryd.func15, Tryd.ntmps15
    go_wp2_with (refine wpList_box_arr rfl RHT (.tmp 0) rfl (hv h) (by rfl) ?_; intro g1 w1 hg1 hk1 hb1; have q0 := hk1.h0; have q1 := hk1.h1; have q2 := hk1.h2; have q3 := hk1.h3; have q4 := hk1.h4)
    go_ret
    exact ⟨rfl, hb1⟩
theorem refPut_sl (v : Value) (L : List Nat) (x : Nat) (w : World) (h : Sl w v L) (hl : L.length ≤ 65536) (hx : x < 18446744073709551616) :
    Calls Tryd.prog 20 #[v, .int .u64 x] w fun e w' => ∃ r, e = .returned r ∧ Sl w' r (L ++ vb x) ∧ Below w.heap.size w w' := by
  obtain ⟨a, c, rfl, hs, hz, _⟩ := h.arg
  refine (refPut_any a c L x w hl hx hz hs).mono ?_
  rintro e w' ⟨r, rfl, ho, hb⟩
  exact ⟨r, rfl, Sl.own ho, hb⟩
theorem refSeal_sl (v : Value) (L : List Nat) (w : World) (h : Sl w v L) (hl : L.length ≤ 504) (hb : B8 L) :
    Calls Tryd.prog 21 #[.int .u8 4, v] w fun e w' => ∃ r, e = .returned (.tuple #[r, .int .i64 0]) ∧ Sl w' r (pageL 4 L) ∧ Below w.heap.size w w' := by
  obtain ⟨a, c, rfl, hs, hz, _⟩ := h.arg
  refine (refSeal_in 4 a _ c L rfl w (by decide) (by decide) hl hb hz hs).mono ?_
  rintro e w' ⟨r, rfl, ho, hb⟩
  exact ⟨r, rfl, Sl.own ho, hb⟩
theorem vb_few (v : Nat) (h : v < 18446744073709551616) : (vb v).length ≤ 10 := vs_le h
set_option maxRecDepth 100000 in
theorem refEnc_yes (h : Hd) (m : HMay h) (w : World) :
    Calls Tryd.prog 8 #[.agg (hv h)] w fun e w' => ∃ r, e = .returned (.tuple #[r, .int .i64 0]) ∧ Sl w' r (hpage h) ∧ Below w.heap.size w w' := by
  have CM := Lib.hid (fun w => refMay_any h w)
  rw [(hmayB_iff h).2 m] at CM
  obtain ⟨R, hR⟩ : ∃ R, h.r.toNat = R := ⟨_, rfl⟩
  obtain ⟨E, hE⟩ : ∃ E, h.e.toNat = E := ⟨_, rfl⟩
  have f := m.fit
  have hr0 := m.root0
  have he0 : 0 ≤ h.e := m.2.1.1
  have hr1 := f.r1
  have he1 := f.e1
  have zr : IntKind.u64.wrap h.r = (R : Int) := by rw [IntKind.wrap_u64]; omega
  have ze : IntKind.u64.wrap h.e = (E : Int) := by rw [IntKind.wrap_u64]; omega
  have b1 := vb_few _ f.s
  have b2 := vb_few _ f.t
  have b3 := vb_few _ f.g
  have hRl : R < 18446744073709551616 := by omega
  have hEl : E < 18446744073709551616 := by omega
  have b4 := vb_few _ hRl
  have b5 := vb_few _ hEl
  have HL : Hid (hload h = [] ++ vb h.s ++ vb h.t ++ vb h.g ++ vb R ++ vb E) := by show _ = _; rw [← hR, ← hE]; rfl
  have C1 := Lib.hid (fun v w hs => refPut_sl v [] h.s w hs (by simp) f.s)
  have C2 := Lib.hid (fun v w hs => refPut_sl v ([] ++ vb h.s) h.t w hs (by simp only [List.length_append, List.length_nil]; omega) f.t)
  have C3 := Lib.hid (fun v w hs => refPut_sl v ([] ++ vb h.s ++ vb h.t) h.g w hs (by simp only [List.length_append, List.length_nil]; omega) f.g)
  have C4 := Lib.hid (fun v w hs => refPut_sl v ([] ++ vb h.s ++ vb h.t ++ vb h.g) R w hs (by simp only [List.length_append, List.length_nil]; omega) hRl)
  have C5 := Lib.hid (fun v w hs => refPut_sl v ([] ++ vb h.s ++ vb h.t ++ vb h.g ++ vb R) E w hs (by simp only [List.length_append, List.length_nil]; omega) hEl)
  have C6 := Lib.hid (fun v w hs => refSeal_sl v (hload h) w hs (by have := hload_len m; omega) (hload_b8 h))
  rw [HL.out] at C6
  rw [show hpage h = pageL 4 ([] ++ vb h.s ++ vb h.t ++ vb h.g ++ vb R ++ vb E) by unfold hpage; rw [HL.out]]
  generalize [] ++ vb h.s ++ vb h.t ++ vb h.g ++ vb R ++ vb E = L5 at *
  generalize [] ++ vb h.s ++ vb h.t ++ vb h.g ++ vb R = L4 at *
  generalize [] ++ vb h.s ++ vb h.t ++ vb h.g = L3 at *
  generalize [] ++ vb h.s ++ vb h.t = L2 at *
  generalize [] ++ vb h.s = L1 at *
  clear m f hR hE hr0 he0 hr1 he1 b1 b2 b3 b4 b5 hRl hEl HL
  go_enter Tryd.func8, Tryd.ntmps8
  go_wp2_with (first
    | (refine wpList_box_arr rfl RHT (.tmp 0) rfl (hv h) (by rfl) ?_; intro g1 w1 hg1 hk1 hb1; have HK := Lib.hid hk1)
    | (refine wpList_load_agg rfl RHT (.tmp 1) rfl g1 0 (hv h) (by rfl) agg_RHT hk1.at (hv_size _) ?_))
  have HB := Lib.hid hb1
  clear hg1 hb1 hk1
  refine (CM.out w1).mono ?_
  rintro e w2 ⟨rfl, hb⟩
  replace HB := Lib.hid (HB.out.trans (hb.mono HB.out.size))
  replace HK := Lib.hid (HK.out.ext hb)
  clear hb CM
  go_wp2_with fail
  refine wp_region_gr [(0, true), (1, true), (3, true), (4, true), (6, true), (7, true), (2, false), (5, false), (8, false), (9, true)] (by kernel_rfl) (by kernel_rfl) (by kernel_rfl) (by kernel_rfl) (fun _ _ _ _ _ h => h) ?_
  replace HB := Lib.hid HB.out.drew
  replace HK := Lib.hid (HK.out.ext (Ext.drew _))
  generalize w2.drew = ud at *
  have q0 : ∀ w', Ext ud w' → w'.cell? ⟨g1, 0, none⟩ = some (.int .u64 (h.s : Nat)) := fun w' hw => (HK.out.ext hw).h0
  have q1 : ∀ w', Ext ud w' → w'.cell? ⟨g1, 1, none⟩ = some (.int .u64 (h.t : Nat)) := fun w' hw => (HK.out.ext hw).h1
  have q2 : ∀ w', Ext ud w' → w'.cell? ⟨g1, 2, none⟩ = some (.int .u64 (h.g : Nat)) := fun w' hw => (HK.out.ext hw).h2
  iterate 6 (refine wpGr_read (o := ⟨_, _, _, _, _, _⟩) (v := ?_) rfl (by rfl) ?_ ?_; rotate_left; (intro w' hw'; go_simp; with_reducible rfl); simp only [Act.put, List.setIfInBounds_toArray, List.set_cons_zero, List.set_cons_succ])
  clear q0 q1 q2
  refine wpGr_call (o := ⟨_, _, _, _, _, _⟩) rfl (by rfl) (fun K hK => ?_)
  try go_simp
  refine (C1.out _ ud (Sl.none _)).mono ?_
  rintro e u1 ⟨r1, rfl, hs, hb⟩
  refine hK _ _ hb ?_
  clear hK K
  replace HB := Lib.hid (HB.out.trans (hb.mono HB.out.size))
  replace HK := Lib.hid (HK.out.ext hb)
  have HS := Lib.hid hs
  clear hb hs
  try simp only [Act.put, List.setIfInBounds_toArray, List.set_cons_zero, List.set_cons_succ]
  refine wpGr_call (o := ⟨_, _, _, _, _, _⟩) rfl (by rfl) (fun K hK => ?_)
  try go_simp
  refine (C2.out _ u1 HS.out).mono ?_
  rintro e u2 ⟨r2, rfl, hs, hb⟩
  refine hK _ _ hb ?_
  clear hK K
  replace HB := Lib.hid (HB.out.trans (hb.mono HB.out.size))
  replace HK := Lib.hid (HK.out.ext hb)
  replace HS := Lib.hid hs
  clear hb hs
  try simp only [Act.put, List.setIfInBounds_toArray, List.set_cons_zero, List.set_cons_succ]
  refine wpGr_call (o := ⟨_, _, _, _, _, _⟩) rfl (by rfl) (fun K hK => ?_)
  try go_simp
  refine (C3.out _ u2 HS.out).mono ?_
  rintro e u3 ⟨r3, rfl, hs, hb⟩
  refine hK _ _ hb ?_
  clear hK K
  replace HB := Lib.hid (HB.out.trans (hb.mono HB.out.size))
  replace HK := Lib.hid (HK.out.ext hb)
  replace HS := Lib.hid hs
  clear hb hs C1 C2 C3
  try simp only [Act.put, List.setIfInBounds_toArray, List.set_cons_zero, List.set_cons_succ]
  (refine wpGr_read (o := ⟨_, _, _, _, _, _⟩) (v := ?_) rfl (by rfl) ?_ ?_; rotate_left; (intro w' hw'; go_simp; with_reducible rfl); simp only [Act.put, List.setIfInBounds_toArray, List.set_cons_zero, List.set_cons_succ])
  refine wpGr_done ?_
  go_wp2_with fail
  refine wp_region_gr [(0, true), (1, true), (2, true), (3, true), (5, true), (6, true), (7, true), (4, false), (8, false), (9, false), (10, true), (11, true), (12, true), (13, true)] (by kernel_rfl) (by kernel_rfl) (by kernel_rfl) (by kernel_rfl) (fun _ _ _ _ _ h => h) ?_
  replace HB := Lib.hid HB.out.drew
  replace HK := Lib.hid (HK.out.ext (Ext.drew _))
  replace HS := Lib.hid (HS.out.below (Ext.drew u3) (Nat.le_refl _))
  generalize u3.drew = ue at *
  have q3 : ∀ w', Ext ue w' → w'.cell? ⟨g1, 3, none⟩ = some (.int .i64 h.r) := fun w' hw => (HK.out.ext hw).h3
  have q4 : ∀ w', Ext ue w' → w'.cell? ⟨g1, 4, none⟩ = some (.int .i64 h.e) := fun w' hw => (HK.out.ext hw).h4
  iterate 7 (refine wpGr_read (o := ⟨_, _, _, _, _, _⟩) (v := ?_) rfl (by rfl) ?_ ?_; rotate_left; (intro w' hw'; go_simp; with_reducible rfl); simp only [Act.put, List.setIfInBounds_toArray, List.set_cons_zero, List.set_cons_succ])
  clear q3 q4
  refine wpGr_call (o := ⟨_, _, _, _, _, _⟩) rfl (by rfl) (fun K hK => ?_)
  try go_simp
  refine (C4.out _ ue HS.out).mono ?_
  rintro e u4 ⟨r4, rfl, hs, hb⟩
  refine hK _ _ hb ?_
  clear hK K
  replace HB := Lib.hid (HB.out.trans (hb.mono HB.out.size))
  replace HS := Lib.hid hs
  clear hb hs
  try simp only [Act.put, List.setIfInBounds_toArray, List.set_cons_zero, List.set_cons_succ]
  refine wpGr_call (o := ⟨_, _, _, _, _, _⟩) rfl (by rfl) (fun K hK => ?_)
  try go_simp
  refine (C5.out _ u4 HS.out).mono ?_
  rintro e u5 ⟨r5, rfl, hs, hb⟩
  refine hK _ _ hb ?_
  clear hK K
  replace HB := Lib.hid (HB.out.trans (hb.mono HB.out.size))
  replace HS := Lib.hid hs
  clear hb hs
  try simp only [Act.put, List.setIfInBounds_toArray, List.set_cons_zero, List.set_cons_succ]
  refine wpGr_call (o := ⟨_, _, _, _, _, _⟩) rfl (by rfl) (fun K hK => ?_)
  try go_simp
  refine (C6.out _ u5 HS.out).mono ?_
  rintro e u6 ⟨r6, rfl, hs, hb⟩
  refine hK _ _ hb ?_
  clear hK K
  replace HB := Lib.hid (HB.out.trans (hb.mono HB.out.size))
  replace HS := Lib.hid hs
  clear hb hs
  try simp only [Act.put, List.setIfInBounds_toArray, List.set_cons_zero, List.set_cons_succ]
  iterate 4 (refine wpGr_read (o := ⟨_, _, _, _, _, _⟩) (v := ?_) rfl (by rfl) ?_ ?_; rotate_left; (intro w' hw'; go_simp; with_reducible rfl); simp only [Act.put, List.setIfInBounds_toArray, List.set_cons_zero, List.set_cons_succ])
  refine wpGr_done ?_
  go_wp2
  go_ret2
  exact ⟨_, rfl, HS.out, HB.out⟩
theorem refEnc_no (h : Hd) (m : ¬ HMay h) (w : World) :
    Calls Tryd.prog 8 #[.agg (hv h)] w fun e w' => e = .returned (.tuple #[.slice none 0 0, .int .i64 1]) ∧ Below w.heap.size w w' := by
  have CM := Lib.hid (fun w => refMay_any h w)
  rw [(hmayB_not h).2 m] at CM
  clear m
  go_enter Tryd.func8, Tryd.ntmps8
  go_wp2_with (first
    | (refine wpList_box_arr rfl RHT (.tmp 0) rfl (hv h) (by rfl) ?_; intro g1 w1 hg1 hk1 hb1; have HK := Lib.hid hk1)
    | (refine wpList_load_agg rfl RHT (.tmp 1) rfl g1 0 (hv h) (by rfl) agg_RHT hk1.at (hv_size _) ?_))
  have HB := Lib.hid hb1
  clear hg1 hb1 hk1
  refine (CM.out w1).mono ?_
  rintro e w2 ⟨rfl, hb⟩
  replace HB := Lib.hid (HB.out.trans (hb.mono HB.out.size))
  clear hb HK
  go_wp2
  go_ret2
  exact ⟨rfl, HB.out⟩
end Go.Proofs.YtofbomcimicccaaDoor
