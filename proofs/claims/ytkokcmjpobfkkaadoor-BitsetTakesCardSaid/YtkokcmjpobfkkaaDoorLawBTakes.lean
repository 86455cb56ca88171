/-
  BitsetTakes: the law's walk (mktakes17.py).
-/
import Derived.Test.YtkokcmjpobfkkaaDoorTakeMath
import Derived.Test.YtkokcmjpobfkkaaDoorGt
import Derived.Deep.DeepCutAuto
namespace Go.Proofs.YtkokcmjpobfkkaaDoor
open Go Go.RowKit

set_option maxRecDepth 100000 in
set_option maxHeartbeats 4000000 in
theorem takes_any (f g : Nat → Bool) (x : Int) (w : World) (hx1 : -32768 ≤ x) (hx2 : x ≤ 32767) (hg : Hg w) (hT : TabIn w) : Calls Tryd.prog 4 #[.agg (sc f), .agg (sc g), .int .i16 x] w fun e w' => e = .returned (.bool true) ∧ Below w.heap.size w w' := by
  have HG := Lib.hid hg
  have HT := Lib.hid hT
  have HGw := Lib.hid hg
  have HTw := Lib.hid hT
  have HB := Lib.hid (Below.refl w.heap.size w)
  have xw : IntKind.i64.wrap x = x := by rw [IntKind.wrap_i64]; omega
  clear hg hT
  obtain ⟨A1, hA1⟩ : ∃ F : Nat → Bool, (fun m => f m && g m) = F := ⟨_, rfl⟩
  have pA1 : ∀ m, A1 m = (f m && g m) := fun m => by rw [← hA1]
  have cA1 := fun w => both_any f g w
  rw [hA1] at cA1
  have CA1 := Lib.hid cA1
  clear cA1
  obtain ⟨A2, hA2⟩ : ∃ F : Nat → Bool, (fun m => f m && !g m) = F := ⟨_, rfl⟩
  have pA2 : ∀ m, A2 m = (f m && !g m) := fun m => by rw [← hA2]
  have cA2 := fun w => less_any f g w
  rw [hA2] at cA2
  have CA2 := Lib.hid cA2
  clear cA2
  obtain ⟨A3, hA3⟩ : ∃ F : Nat → Bool, (fun m => A1 m || A2 m) = F := ⟨_, rfl⟩
  have pA3 : ∀ m, A3 m = (A1 m || A2 m) := fun m => by rw [← hA3]
  have cA3 := fun w => either_any A1 A2 w
  rw [hA3] at cA3
  have CA3 := Lib.hid cA3
  clear cA3
  obtain ⟨A4, hA4⟩ : ∃ F : Nat → Bool, (fun m => A1 m && A2 m) = F := ⟨_, rfl⟩
  have pA4 : ∀ m, A4 m = (A1 m && A2 m) := fun m => by rw [← hA4]
  have cA4 := fun w => both_any A1 A2 w
  rw [hA4] at cA4
  have CA4 := Lib.hid cA4
  clear cA4
  have S1 : Hid (sc f = sc A3) := sc_ext (fun m _ => by rw [pA3, pA1, pA2]; cases f m <;> cases g m <;> rfl)
  have S2 : Hid (sc (fun _ => false) = sc A4) := sc_ext (fun m _ => by rw [pA4, pA1, pA2]; cases f m <;> cases g m <;> rfl)
  have n1 := cnt_part f g 1024
  rw [hA1, hA2] at n1
  obtain ⟨c1, hc1⟩ : ∃ c, cnt A1 1024 = c := ⟨_, rfl⟩
  have bc1 := cnt_le A1 1024
  have dc1 := fun w => count_any A1 w
  rw [hc1] at bc1 dc1
  have Dc1 := Lib.hid dc1
  clear dc1
  obtain ⟨c2, hc2⟩ : ∃ c, cnt A2 1024 = c := ⟨_, rfl⟩
  have bc2 := cnt_le A2 1024
  have dc2 := fun w => count_any A2 w
  rw [hc2] at bc2 dc2
  have Dc2 := Lib.hid dc2
  clear dc2
  obtain ⟨C, hC⟩ : ∃ c, cnt f 1024 = c := ⟨_, rfl⟩
  have bC := cnt_le f 1024
  have dC := fun w => count_any f w
  rw [hC] at bC dC
  have DC := Lib.hid dC
  clear dC
  rw [hc1, hc2, hC] at n1
  clear hc1 hc2
  have HC := Lib.hid hC
  clear hC
  clear hA1 pA1
  clear hA2 pA2
  clear hA3 pA3
  clear hA4 pA4
  have e1 : (c1 : Int) + (c2 : Int) = (C : Int) := by omega
  have w1 : IntKind.i64.wrap (C : Int) = (C : Int) := by rw [IntKind.wrap_i64]; omega
  clear n1
  go_enter Tryd.func4, Tryd.ntmps4
  go_wp2_with (first
    | (show wpList _ _ _ (⟨some 3, _, _, _, _, _⟩ :: _) _ _; refine wpList_box_arr rfl TW (.tmp 0) rfl (sc f) (by rfl) ?_; intro g3 v1 hg1 hk1 hb1)
    | (show wpList _ _ _ (⟨some 4, _, _, _, _, _⟩ :: _) _ _; refine wpList_box_arr rfl TW (.tmp 1) rfl (sc g) (by rfl) ?_; intro g4 v2 hg2 hk2 hb2))
  have hb : Ext w v2 := hb1.trans (hb2.mono hb1.size)
  replace HB := Lib.hid (HB.out.trans (hb.mono HB.out.size))
  replace HG := Lib.hid (HG.out.below hb)
  replace HT := Lib.hid (HT.out.below hb)
  have K3 := Lib.hid (hk1.ext hb2)
  have K4 := Lib.hid hk2
  clear hb hb1 hb2 hk1 hk2 hg1 hg2
  go_upto_region 1 with fail
  go_cut [7, 8] (fun s7 s8 wx => ∃ g7 g8 : Nat, s7 = .pointer (some ⟨g7, 0, none⟩) ∧ s8 = .pointer (some ⟨g8, 0, none⟩) ∧ Hid (Blk wx g7 TS (sc f) ∧ Blk wx g8 TS (sc g)) ∧ Hid (Below v2.heap.size v2 wx))
  case first =>
    refine wp_region_gs (F := fun i => v2.heap.size ≤ i) (.rd 0 (.rd 1 (.two 2 (.call 3 (.call 4 (.call 5 .done))) 3 (.call 2 (.call 4 (.call 5 .done)))))) (by kernel_rfl) (by kernel_rfl) (by kernel_rfl) (by kernel_rfl) (fun _ _ _ _ _ h => h) ?_
    have hb : Ext v2 v2.drew := Ext.drew _
    have HN : Hid (v2.drew.heap.size = v2.heap.size) := rfl
    have HD := Lib.hid hb
    replace HB := Lib.hid (HB.out.trans (hb.mono HB.out.size))
    replace HG := Lib.hid (HG.out.below hb)
    replace HT := Lib.hid (HT.out.below hb)
    replace K3 := Lib.hid (K3.out.ext hb)
    replace K4 := Lib.hid (K4.out.ext hb)
    clear hb
    have HX : Hid (Turn (fun i => v2.heap.size ≤ i) v2.drew v2.drew) := Turn.refl _ _
    generalize v2.drew = u1 at *
    refine wpGs_read (o := ⟨_, _, _, _, _, _⟩) (v := .agg (sc f)) rfl (by rfl) (fun w' hw' => rd_load_sc TW (.tmp 3) rfl g3 f TW (by rfl) arr_TW (K3.out.turn hw' (fun (e : v2.heap.size ≤ g3) => Nat.not_le.2 (Nat.lt_of_lt_of_eq K3.out.lt HN.out) e))) ?_
    simp only [Act.put, List.setIfInBounds_toArray, List.set_cons_zero, List.set_cons_succ]
    refine wpGs_read (o := ⟨_, _, _, _, _, _⟩) (v := .agg (sc g)) rfl (by rfl) (fun w' hw' => rd_load_sc TW (.tmp 4) rfl g4 g TW (by rfl) arr_TW (K4.out.turn hw' (fun (e : v2.heap.size ≤ g4) => Nat.not_le.2 (Nat.lt_of_lt_of_eq K4.out.lt HN.out) e))) ?_
    simp only [Act.put, List.setIfInBounds_toArray, List.set_cons_zero, List.set_cons_succ]
    refine ⟨?_, ?_⟩
    · skip
      refine stepS_call (o := ⟨_, _, _, _, _, _⟩) rfl (by rfl) (fun K hK => ?_)
      refine wp_alloc_arr TS rfl arrz_TS ?_
      intro g7 u2 hg hk hb
      refine hK _ _ (Turn.ofBelow hb) ?_
      clear hK K
      simp only [Act.put, List.setIfInBounds_toArray, List.set_cons_zero, List.set_cons_succ]
      have G7 : Hid (v2.heap.size ≤ g7) := Nat.le_trans (Nat.le_of_eq HN.out.symm) (Nat.le_trans HX.out.size hg)
      replace HX := Lib.hid (HX.out.trans (Turn.ofBelow hb))
      have K7 := Lib.hid hk
      clear hk hg hb
      refine stepS_call (o := ⟨_, _, _, _, _, _⟩) rfl (by rfl) (fun K hK => ?_)
      refine wp_alloc_arr TS rfl arrz_TS ?_
      intro g8 u3 hg hk hb
      refine hK _ _ (Turn.ofBelow hb) ?_
      clear hK K
      simp only [Act.put, List.setIfInBounds_toArray, List.set_cons_zero, List.set_cons_succ]
      have G8 : Hid (v2.heap.size ≤ g8) := Nat.le_trans (Nat.le_of_eq HN.out.symm) (Nat.le_trans HX.out.size hg)
      have N8_7 : Hid (g8 ≠ g7) := (Nat.ne_of_lt (Nat.lt_of_lt_of_le K7.out.lt hg)).symm
      replace HX := Lib.hid (HX.out.trans (Turn.ofBelow hb))
      replace K7 := Lib.hid (K7.out.ext hb)
      have K8 := Lib.hid hk
      clear hk hg hb
      refine stepS_call (o := ⟨_, _, _, _, _, _⟩) rfl (by rfl) (fun K hK => ?_)
      refine wp_store_sc TS (.tmp 7) (.tmp 15) rfl g7 f _ TS (by rfl) (by rfl) arr_TS K7.out ?_
      intro u4 hk ht _
      have hX : Turn (fun i => v2.heap.size ≤ i) u3 u4 := ht.mono (fun i hi _ => by subst hi; exact G7.out)
      refine hK _ _ hX ?_
      clear hK K
      simp only [Act.put]
      replace HX := Lib.hid (HX.out.trans hX)
      replace K7 := Lib.hid hk
      replace K8 := Lib.hid (K8.out.turn ht (fun e => N8_7.out e))
      clear hk ht hX
      refine stepS_call (o := ⟨_, _, _, _, _, _⟩) rfl (by rfl) (fun K hK => ?_)
      refine wp_store_sc TS (.tmp 8) (.tmp 16) rfl g8 g _ TS (by rfl) (by rfl) arr_TS K8.out ?_
      intro u5 hk ht _
      have hX : Turn (fun i => v2.heap.size ≤ i) u4 u5 := ht.mono (fun i hi _ => by subst hi; exact G8.out)
      refine hK _ _ hX ?_
      clear hK K
      simp only [Act.put]
      replace HX := Lib.hid (HX.out.trans hX)
      replace K7 := Lib.hid (K7.out.turn ht (fun e => N8_7.out e.symm))
      replace K8 := Lib.hid hk
      clear hk ht hX
      refine wpGs_done ?_
      go_wp2
      go_meet
      exact ⟨g7, g8, rfl, rfl, ⟨K7.out, K8.out⟩, Below.trans HD.out (HX.out.below (B := v2.heap.size) (Nat.le_of_eq HN.out.symm) (fun i hi => hi))⟩
    · skip
      refine stepS_call (o := ⟨_, _, _, _, _, _⟩) rfl (by rfl) (fun K hK => ?_)
      refine wp_alloc_arr TS rfl arrz_TS ?_
      intro g8 u2 hg hk hb
      refine hK _ _ (Turn.ofBelow hb) ?_
      clear hK K
      simp only [Act.put, List.setIfInBounds_toArray, List.set_cons_zero, List.set_cons_succ]
      have G8 : Hid (v2.heap.size ≤ g8) := Nat.le_trans (Nat.le_of_eq HN.out.symm) (Nat.le_trans HX.out.size hg)
      replace HX := Lib.hid (HX.out.trans (Turn.ofBelow hb))
      have K8 := Lib.hid hk
      clear hk hg hb
      refine stepS_call (o := ⟨_, _, _, _, _, _⟩) rfl (by rfl) (fun K hK => ?_)
      refine wp_alloc_arr TS rfl arrz_TS ?_
      intro g7 u3 hg hk hb
      refine hK _ _ (Turn.ofBelow hb) ?_
      clear hK K
      simp only [Act.put, List.setIfInBounds_toArray, List.set_cons_zero, List.set_cons_succ]
      have G7 : Hid (v2.heap.size ≤ g7) := Nat.le_trans (Nat.le_of_eq HN.out.symm) (Nat.le_trans HX.out.size hg)
      have N7_8 : Hid (g7 ≠ g8) := (Nat.ne_of_lt (Nat.lt_of_lt_of_le K8.out.lt hg)).symm
      replace HX := Lib.hid (HX.out.trans (Turn.ofBelow hb))
      replace K8 := Lib.hid (K8.out.ext hb)
      have K7 := Lib.hid hk
      clear hk hg hb
      refine stepS_call (o := ⟨_, _, _, _, _, _⟩) rfl (by rfl) (fun K hK => ?_)
      refine wp_store_sc TS (.tmp 7) (.tmp 15) rfl g7 f _ TS (by rfl) (by rfl) arr_TS K7.out ?_
      intro u4 hk ht _
      have hX : Turn (fun i => v2.heap.size ≤ i) u3 u4 := ht.mono (fun i hi _ => by subst hi; exact G7.out)
      refine hK _ _ hX ?_
      clear hK K
      simp only [Act.put]
      replace HX := Lib.hid (HX.out.trans hX)
      replace K8 := Lib.hid (K8.out.turn ht (fun e => N7_8.out e.symm))
      replace K7 := Lib.hid hk
      clear hk ht hX
      refine stepS_call (o := ⟨_, _, _, _, _, _⟩) rfl (by rfl) (fun K hK => ?_)
      refine wp_store_sc TS (.tmp 8) (.tmp 16) rfl g8 g _ TS (by rfl) (by rfl) arr_TS K8.out ?_
      intro u5 hk ht _
      have hX : Turn (fun i => v2.heap.size ≤ i) u4 u5 := ht.mono (fun i hi _ => by subst hi; exact G8.out)
      refine hK _ _ hX ?_
      clear hK K
      simp only [Act.put]
      replace HX := Lib.hid (HX.out.trans hX)
      replace K8 := Lib.hid hk
      replace K7 := Lib.hid (K7.out.turn ht (fun e => N7_8.out e))
      clear hk ht hX
      refine wpGs_done ?_
      go_wp2
      go_meet
      exact ⟨g7, g8, rfl, rfl, ⟨K7.out, K8.out⟩, Below.trans HD.out (HX.out.below (B := v2.heap.size) (Nat.le_of_eq HN.out.symm) (fun i hi => hi))⟩
  case rest =>
    obtain ⟨g7, g8, rfl, rfl, hk, hb⟩ := hcut
    obtain ⟨k7, k8⟩ := hk.out
    replace hb := hb.out
    generalize wc = u2 at *
    replace HB := Lib.hid (HB.out.trans (hb.mono HB.out.size))
    replace HG := Lib.hid (HG.out.below hb)
    replace HT := Lib.hid (HT.out.below hb)
    replace K3 := Lib.hid (K3.out.ext hb)
    replace K4 := Lib.hid (K4.out.ext hb)
    have K7 := Lib.hid k7
    have K8 := Lib.hid k8
    clear hk hb k7 k8
    go_upto_region 2 with fail
    go_cut [9, 10] (fun s9 s10 wx => ∃ g9 g10 : Nat, s9 = .pointer (some ⟨g9, 0, none⟩) ∧ s10 = .pointer (some ⟨g10, 0, none⟩) ∧ Hid (Blk wx g9 TS (sc A1) ∧ Blk wx g10 TS (sc A2)) ∧ Hid (Below u2.heap.size u2 wx))
    case first =>
      refine wp_region_gs (F := fun i => u2.heap.size ≤ i) (.rd 0 (.rd 1 (.rd 3 (.rd 4 (.three 2 (.three 5 (.two 6 (.call 7 (.call 8 (.call 9 .done))) 7 (.call 6 (.call 8 (.call 9 .done)))) 6 (.two 5 (.call 7 (.call 8 (.call 9 .done))) 7 (.call 5 (.call 8 (.call 9 .done)))) 7 (.two 5 (.call 6 (.call 8 (.call 9 .done))) 6 (.call 5 (.call 8 (.call 9 .done))))) 6 (.two 2 (.two 5 (.call 7 (.call 8 (.call 9 .done))) 7 (.call 5 (.call 8 (.call 9 .done)))) 7 (.call 2 (.call 5 (.call 8 (.call 9 .done))))) 7 (.two 2 (.two 5 (.call 6 (.call 8 (.call 9 .done))) 6 (.call 5 (.call 8 (.call 9 .done)))) 6 (.call 2 (.call 5 (.call 8 (.call 9 .done)))))))))) (by kernel_rfl) (by kernel_rfl) (by kernel_rfl) (by kernel_rfl) (fun _ _ _ _ _ h => h) ?_
      have hb : Ext u2 u2.drew := Ext.drew _
      have HN : Hid (u2.drew.heap.size = u2.heap.size) := rfl
      have HD := Lib.hid hb
      replace HB := Lib.hid (HB.out.trans (hb.mono HB.out.size))
      replace HG := Lib.hid (HG.out.below hb)
      replace HT := Lib.hid (HT.out.below hb)
      replace K3 := Lib.hid (K3.out.ext hb)
      replace K4 := Lib.hid (K4.out.ext hb)
      replace K7 := Lib.hid (K7.out.ext hb)
      replace K8 := Lib.hid (K8.out.ext hb)
      clear hb
      have HX : Hid (Turn (fun i => u2.heap.size ≤ i) u2.drew u2.drew) := Turn.refl _ _
      generalize u2.drew = u3 at *
      refine wpGs_read (o := ⟨_, _, _, _, _, _⟩) (v := .agg (sc f)) rfl (by rfl) (fun w' hw' => rd_load_sc TS (.tmp 7) rfl g7 f TS (by rfl) arr_TS (K7.out.turn hw' (fun (e : u2.heap.size ≤ g7) => Nat.not_le.2 (Nat.lt_of_lt_of_eq K7.out.lt HN.out) e))) ?_
      simp only [Act.put, List.setIfInBounds_toArray, List.set_cons_zero, List.set_cons_succ]
      refine wpGs_read (o := ⟨_, _, _, _, _, _⟩) (v := .agg (sc g)) rfl (by rfl) (fun w' hw' => rd_load_sc TS (.tmp 8) rfl g8 g TS (by rfl) arr_TS (K8.out.turn hw' (fun (e : u2.heap.size ≤ g8) => Nat.not_le.2 (Nat.lt_of_lt_of_eq K8.out.lt HN.out) e))) ?_
      simp only [Act.put, List.setIfInBounds_toArray, List.set_cons_zero, List.set_cons_succ]
      refine wpGs_read (o := ⟨_, _, _, _, _, _⟩) (v := .agg (sc f)) rfl (by rfl) (fun w' hw' => rd_load_sc TS (.tmp 7) rfl g7 f TS (by rfl) arr_TS (K7.out.turn hw' (fun (e : u2.heap.size ≤ g7) => Nat.not_le.2 (Nat.lt_of_lt_of_eq K7.out.lt HN.out) e))) ?_
      simp only [Act.put, List.setIfInBounds_toArray, List.set_cons_zero, List.set_cons_succ]
      refine wpGs_read (o := ⟨_, _, _, _, _, _⟩) (v := .agg (sc g)) rfl (by rfl) (fun w' hw' => rd_load_sc TS (.tmp 8) rfl g8 g TS (by rfl) arr_TS (K8.out.turn hw' (fun (e : u2.heap.size ≤ g8) => Nat.not_le.2 (Nat.lt_of_lt_of_eq K8.out.lt HN.out) e))) ?_
      simp only [Act.put, List.setIfInBounds_toArray, List.set_cons_zero, List.set_cons_succ]
      refine ⟨?_, ?_, ?_⟩
      · skip
        refine stepS_call (o := ⟨_, _, _, _, _, _⟩) rfl (by rfl) (fun K hK => ?_)
        go_simp
        refine (CA1.out u3).mono ?_
        rintro e u4 ⟨rfl, hb⟩
        refine hK _ _ (Turn.ofBelow hb) ?_
        clear hK K
        replace HX := Lib.hid (HX.out.trans (Turn.ofBelow hb))
        clear hb
        refine ⟨?_, ?_, ?_⟩
        · skip
          refine stepS_call (o := ⟨_, _, _, _, _, _⟩) rfl (by rfl) (fun K hK => ?_)
          go_simp
          refine (CA2.out u4).mono ?_
          rintro e u5 ⟨rfl, hb⟩
          refine hK _ _ (Turn.ofBelow hb) ?_
          clear hK K
          replace HX := Lib.hid (HX.out.trans (Turn.ofBelow hb))
          clear hb
          refine ⟨?_, ?_⟩
          · skip
            refine stepS_call (o := ⟨_, _, _, _, _, _⟩) rfl (by rfl) (fun K hK => ?_)
            refine wp_alloc_arr TS rfl arrz_TS ?_
            intro g9 u6 hg hk hb
            refine hK _ _ (Turn.ofBelow hb) ?_
            clear hK K
            simp only [Act.put, List.setIfInBounds_toArray, List.set_cons_zero, List.set_cons_succ]
            have G9 : Hid (u2.heap.size ≤ g9) := Nat.le_trans (Nat.le_of_eq HN.out.symm) (Nat.le_trans HX.out.size hg)
            replace HX := Lib.hid (HX.out.trans (Turn.ofBelow hb))
            have K9 := Lib.hid hk
            clear hk hg hb
            refine stepS_call (o := ⟨_, _, _, _, _, _⟩) rfl (by rfl) (fun K hK => ?_)
            refine wp_alloc_arr TS rfl arrz_TS ?_
            intro g10 u7 hg hk hb
            refine hK _ _ (Turn.ofBelow hb) ?_
            clear hK K
            simp only [Act.put, List.setIfInBounds_toArray, List.set_cons_zero, List.set_cons_succ]
            have G10 : Hid (u2.heap.size ≤ g10) := Nat.le_trans (Nat.le_of_eq HN.out.symm) (Nat.le_trans HX.out.size hg)
            have N10_9 : Hid (g10 ≠ g9) := (Nat.ne_of_lt (Nat.lt_of_lt_of_le K9.out.lt hg)).symm
            replace HX := Lib.hid (HX.out.trans (Turn.ofBelow hb))
            replace K9 := Lib.hid (K9.out.ext hb)
            have K10 := Lib.hid hk
            clear hk hg hb
            refine stepS_call (o := ⟨_, _, _, _, _, _⟩) rfl (by rfl) (fun K hK => ?_)
            refine wp_store_sc TS (.tmp 9) (.tmp 19) rfl g9 A1 _ TS (by rfl) (by rfl) arr_TS K9.out ?_
            intro u8 hk ht _
            have hX : Turn (fun i => u2.heap.size ≤ i) u7 u8 := ht.mono (fun i hi _ => by subst hi; exact G9.out)
            refine hK _ _ hX ?_
            clear hK K
            simp only [Act.put]
            replace HX := Lib.hid (HX.out.trans hX)
            replace K9 := Lib.hid hk
            replace K10 := Lib.hid (K10.out.turn ht (fun e => N10_9.out e))
            clear hk ht hX
            refine stepS_call (o := ⟨_, _, _, _, _, _⟩) rfl (by rfl) (fun K hK => ?_)
            refine wp_store_sc TS (.tmp 10) (.tmp 22) rfl g10 A2 _ TS (by rfl) (by rfl) arr_TS K10.out ?_
            intro u9 hk ht _
            have hX : Turn (fun i => u2.heap.size ≤ i) u8 u9 := ht.mono (fun i hi _ => by subst hi; exact G10.out)
            refine hK _ _ hX ?_
            clear hK K
            simp only [Act.put]
            replace HX := Lib.hid (HX.out.trans hX)
            replace K9 := Lib.hid (K9.out.turn ht (fun e => N10_9.out e.symm))
            replace K10 := Lib.hid hk
            clear hk ht hX
            refine wpGs_done ?_
            go_wp2
            go_meet
            exact ⟨g9, g10, rfl, rfl, ⟨K9.out, K10.out⟩, Below.trans HD.out (HX.out.below (B := u2.heap.size) (Nat.le_of_eq HN.out.symm) (fun i hi => hi))⟩
          · skip
            refine stepS_call (o := ⟨_, _, _, _, _, _⟩) rfl (by rfl) (fun K hK => ?_)
            refine wp_alloc_arr TS rfl arrz_TS ?_
            intro g10 u6 hg hk hb
            refine hK _ _ (Turn.ofBelow hb) ?_
            clear hK K
            simp only [Act.put, List.setIfInBounds_toArray, List.set_cons_zero, List.set_cons_succ]
            have G10 : Hid (u2.heap.size ≤ g10) := Nat.le_trans (Nat.le_of_eq HN.out.symm) (Nat.le_trans HX.out.size hg)
            replace HX := Lib.hid (HX.out.trans (Turn.ofBelow hb))
            have K10 := Lib.hid hk
            clear hk hg hb
            refine stepS_call (o := ⟨_, _, _, _, _, _⟩) rfl (by rfl) (fun K hK => ?_)
            refine wp_alloc_arr TS rfl arrz_TS ?_
            intro g9 u7 hg hk hb
            refine hK _ _ (Turn.ofBelow hb) ?_
            clear hK K
            simp only [Act.put, List.setIfInBounds_toArray, List.set_cons_zero, List.set_cons_succ]
            have G9 : Hid (u2.heap.size ≤ g9) := Nat.le_trans (Nat.le_of_eq HN.out.symm) (Nat.le_trans HX.out.size hg)
            have N9_10 : Hid (g9 ≠ g10) := (Nat.ne_of_lt (Nat.lt_of_lt_of_le K10.out.lt hg)).symm
            replace HX := Lib.hid (HX.out.trans (Turn.ofBelow hb))
            replace K10 := Lib.hid (K10.out.ext hb)
            have K9 := Lib.hid hk
            clear hk hg hb
            refine stepS_call (o := ⟨_, _, _, _, _, _⟩) rfl (by rfl) (fun K hK => ?_)
            refine wp_store_sc TS (.tmp 9) (.tmp 19) rfl g9 A1 _ TS (by rfl) (by rfl) arr_TS K9.out ?_
            intro u8 hk ht _
            have hX : Turn (fun i => u2.heap.size ≤ i) u7 u8 := ht.mono (fun i hi _ => by subst hi; exact G9.out)
            refine hK _ _ hX ?_
            clear hK K
            simp only [Act.put]
            replace HX := Lib.hid (HX.out.trans hX)
            replace K10 := Lib.hid (K10.out.turn ht (fun e => N9_10.out e.symm))
            replace K9 := Lib.hid hk
            clear hk ht hX
            refine stepS_call (o := ⟨_, _, _, _, _, _⟩) rfl (by rfl) (fun K hK => ?_)
            refine wp_store_sc TS (.tmp 10) (.tmp 22) rfl g10 A2 _ TS (by rfl) (by rfl) arr_TS K10.out ?_
            intro u9 hk ht _
            have hX : Turn (fun i => u2.heap.size ≤ i) u8 u9 := ht.mono (fun i hi _ => by subst hi; exact G10.out)
            refine hK _ _ hX ?_
            clear hK K
            simp only [Act.put]
            replace HX := Lib.hid (HX.out.trans hX)
            replace K10 := Lib.hid hk
            replace K9 := Lib.hid (K9.out.turn ht (fun e => N9_10.out e))
            clear hk ht hX
            refine wpGs_done ?_
            go_wp2
            go_meet
            exact ⟨g9, g10, rfl, rfl, ⟨K9.out, K10.out⟩, Below.trans HD.out (HX.out.below (B := u2.heap.size) (Nat.le_of_eq HN.out.symm) (fun i hi => hi))⟩
        · skip
          refine stepS_call (o := ⟨_, _, _, _, _, _⟩) rfl (by rfl) (fun K hK => ?_)
          refine wp_alloc_arr TS rfl arrz_TS ?_
          intro g9 u5 hg hk hb
          refine hK _ _ (Turn.ofBelow hb) ?_
          clear hK K
          simp only [Act.put, List.setIfInBounds_toArray, List.set_cons_zero, List.set_cons_succ]
          have G9 : Hid (u2.heap.size ≤ g9) := Nat.le_trans (Nat.le_of_eq HN.out.symm) (Nat.le_trans HX.out.size hg)
          replace HX := Lib.hid (HX.out.trans (Turn.ofBelow hb))
          have K9 := Lib.hid hk
          clear hk hg hb
          refine ⟨?_, ?_⟩
          · skip
            refine stepS_call (o := ⟨_, _, _, _, _, _⟩) rfl (by rfl) (fun K hK => ?_)
            go_simp
            refine (CA2.out u5).mono ?_
            rintro e u6 ⟨rfl, hb⟩
            refine hK _ _ (Turn.ofBelow hb) ?_
            clear hK K
            replace HX := Lib.hid (HX.out.trans (Turn.ofBelow hb))
            replace K9 := Lib.hid (K9.out.ext hb)
            clear hb
            refine stepS_call (o := ⟨_, _, _, _, _, _⟩) rfl (by rfl) (fun K hK => ?_)
            refine wp_alloc_arr TS rfl arrz_TS ?_
            intro g10 u7 hg hk hb
            refine hK _ _ (Turn.ofBelow hb) ?_
            clear hK K
            simp only [Act.put, List.setIfInBounds_toArray, List.set_cons_zero, List.set_cons_succ]
            have G10 : Hid (u2.heap.size ≤ g10) := Nat.le_trans (Nat.le_of_eq HN.out.symm) (Nat.le_trans HX.out.size hg)
            have N10_9 : Hid (g10 ≠ g9) := (Nat.ne_of_lt (Nat.lt_of_lt_of_le K9.out.lt hg)).symm
            replace HX := Lib.hid (HX.out.trans (Turn.ofBelow hb))
            replace K9 := Lib.hid (K9.out.ext hb)
            have K10 := Lib.hid hk
            clear hk hg hb
            refine stepS_call (o := ⟨_, _, _, _, _, _⟩) rfl (by rfl) (fun K hK => ?_)
            refine wp_store_sc TS (.tmp 9) (.tmp 19) rfl g9 A1 _ TS (by rfl) (by rfl) arr_TS K9.out ?_
            intro u8 hk ht _
            have hX : Turn (fun i => u2.heap.size ≤ i) u7 u8 := ht.mono (fun i hi _ => by subst hi; exact G9.out)
            refine hK _ _ hX ?_
            clear hK K
            simp only [Act.put]
            replace HX := Lib.hid (HX.out.trans hX)
            replace K9 := Lib.hid hk
            replace K10 := Lib.hid (K10.out.turn ht (fun e => N10_9.out e))
            clear hk ht hX
            refine stepS_call (o := ⟨_, _, _, _, _, _⟩) rfl (by rfl) (fun K hK => ?_)
            refine wp_store_sc TS (.tmp 10) (.tmp 22) rfl g10 A2 _ TS (by rfl) (by rfl) arr_TS K10.out ?_
            intro u9 hk ht _
            have hX : Turn (fun i => u2.heap.size ≤ i) u8 u9 := ht.mono (fun i hi _ => by subst hi; exact G10.out)
            refine hK _ _ hX ?_
            clear hK K
            simp only [Act.put]
            replace HX := Lib.hid (HX.out.trans hX)
            replace K9 := Lib.hid (K9.out.turn ht (fun e => N10_9.out e.symm))
            replace K10 := Lib.hid hk
            clear hk ht hX
            refine wpGs_done ?_
            go_wp2
            go_meet
            exact ⟨g9, g10, rfl, rfl, ⟨K9.out, K10.out⟩, Below.trans HD.out (HX.out.below (B := u2.heap.size) (Nat.le_of_eq HN.out.symm) (fun i hi => hi))⟩
          · skip
            refine stepS_call (o := ⟨_, _, _, _, _, _⟩) rfl (by rfl) (fun K hK => ?_)
            refine wp_alloc_arr TS rfl arrz_TS ?_
            intro g10 u6 hg hk hb
            refine hK _ _ (Turn.ofBelow hb) ?_
            clear hK K
            simp only [Act.put, List.setIfInBounds_toArray, List.set_cons_zero, List.set_cons_succ]
            have G10 : Hid (u2.heap.size ≤ g10) := Nat.le_trans (Nat.le_of_eq HN.out.symm) (Nat.le_trans HX.out.size hg)
            have N10_9 : Hid (g10 ≠ g9) := (Nat.ne_of_lt (Nat.lt_of_lt_of_le K9.out.lt hg)).symm
            replace HX := Lib.hid (HX.out.trans (Turn.ofBelow hb))
            replace K9 := Lib.hid (K9.out.ext hb)
            have K10 := Lib.hid hk
            clear hk hg hb
            refine stepS_call (o := ⟨_, _, _, _, _, _⟩) rfl (by rfl) (fun K hK => ?_)
            go_simp
            refine (CA2.out u6).mono ?_
            rintro e u7 ⟨rfl, hb⟩
            refine hK _ _ (Turn.ofBelow hb) ?_
            clear hK K
            replace HX := Lib.hid (HX.out.trans (Turn.ofBelow hb))
            replace K9 := Lib.hid (K9.out.ext hb)
            replace K10 := Lib.hid (K10.out.ext hb)
            clear hb
            refine stepS_call (o := ⟨_, _, _, _, _, _⟩) rfl (by rfl) (fun K hK => ?_)
            refine wp_store_sc TS (.tmp 9) (.tmp 19) rfl g9 A1 _ TS (by rfl) (by rfl) arr_TS K9.out ?_
            intro u8 hk ht _
            have hX : Turn (fun i => u2.heap.size ≤ i) u7 u8 := ht.mono (fun i hi _ => by subst hi; exact G9.out)
            refine hK _ _ hX ?_
            clear hK K
            simp only [Act.put]
            replace HX := Lib.hid (HX.out.trans hX)
            replace K9 := Lib.hid hk
            replace K10 := Lib.hid (K10.out.turn ht (fun e => N10_9.out e))
            clear hk ht hX
            refine stepS_call (o := ⟨_, _, _, _, _, _⟩) rfl (by rfl) (fun K hK => ?_)
            refine wp_store_sc TS (.tmp 10) (.tmp 22) rfl g10 A2 _ TS (by rfl) (by rfl) arr_TS K10.out ?_
            intro u9 hk ht _
            have hX : Turn (fun i => u2.heap.size ≤ i) u8 u9 := ht.mono (fun i hi _ => by subst hi; exact G10.out)
            refine hK _ _ hX ?_
            clear hK K
            simp only [Act.put]
            replace HX := Lib.hid (HX.out.trans hX)
            replace K9 := Lib.hid (K9.out.turn ht (fun e => N10_9.out e.symm))
            replace K10 := Lib.hid hk
            clear hk ht hX
            refine wpGs_done ?_
            go_wp2
            go_meet
            exact ⟨g9, g10, rfl, rfl, ⟨K9.out, K10.out⟩, Below.trans HD.out (HX.out.below (B := u2.heap.size) (Nat.le_of_eq HN.out.symm) (fun i hi => hi))⟩
        · skip
          refine stepS_call (o := ⟨_, _, _, _, _, _⟩) rfl (by rfl) (fun K hK => ?_)
          refine wp_alloc_arr TS rfl arrz_TS ?_
          intro g10 u5 hg hk hb
          refine hK _ _ (Turn.ofBelow hb) ?_
          clear hK K
          simp only [Act.put, List.setIfInBounds_toArray, List.set_cons_zero, List.set_cons_succ]
          have G10 : Hid (u2.heap.size ≤ g10) := Nat.le_trans (Nat.le_of_eq HN.out.symm) (Nat.le_trans HX.out.size hg)
          replace HX := Lib.hid (HX.out.trans (Turn.ofBelow hb))
          have K10 := Lib.hid hk
          clear hk hg hb
          refine ⟨?_, ?_⟩
          · skip
            refine stepS_call (o := ⟨_, _, _, _, _, _⟩) rfl (by rfl) (fun K hK => ?_)
            go_simp
            refine (CA2.out u5).mono ?_
            rintro e u6 ⟨rfl, hb⟩
            refine hK _ _ (Turn.ofBelow hb) ?_
            clear hK K
            replace HX := Lib.hid (HX.out.trans (Turn.ofBelow hb))
            replace K10 := Lib.hid (K10.out.ext hb)
            clear hb
            refine stepS_call (o := ⟨_, _, _, _, _, _⟩) rfl (by rfl) (fun K hK => ?_)
            refine wp_alloc_arr TS rfl arrz_TS ?_
            intro g9 u7 hg hk hb
            refine hK _ _ (Turn.ofBelow hb) ?_
            clear hK K
            simp only [Act.put, List.setIfInBounds_toArray, List.set_cons_zero, List.set_cons_succ]
            have G9 : Hid (u2.heap.size ≤ g9) := Nat.le_trans (Nat.le_of_eq HN.out.symm) (Nat.le_trans HX.out.size hg)
            have N9_10 : Hid (g9 ≠ g10) := (Nat.ne_of_lt (Nat.lt_of_lt_of_le K10.out.lt hg)).symm
            replace HX := Lib.hid (HX.out.trans (Turn.ofBelow hb))
            replace K10 := Lib.hid (K10.out.ext hb)
            have K9 := Lib.hid hk
            clear hk hg hb
            refine stepS_call (o := ⟨_, _, _, _, _, _⟩) rfl (by rfl) (fun K hK => ?_)
            refine wp_store_sc TS (.tmp 9) (.tmp 19) rfl g9 A1 _ TS (by rfl) (by rfl) arr_TS K9.out ?_
            intro u8 hk ht _
            have hX : Turn (fun i => u2.heap.size ≤ i) u7 u8 := ht.mono (fun i hi _ => by subst hi; exact G9.out)
            refine hK _ _ hX ?_
            clear hK K
            simp only [Act.put]
            replace HX := Lib.hid (HX.out.trans hX)
            replace K10 := Lib.hid (K10.out.turn ht (fun e => N9_10.out e.symm))
            replace K9 := Lib.hid hk
            clear hk ht hX
            refine stepS_call (o := ⟨_, _, _, _, _, _⟩) rfl (by rfl) (fun K hK => ?_)
            refine wp_store_sc TS (.tmp 10) (.tmp 22) rfl g10 A2 _ TS (by rfl) (by rfl) arr_TS K10.out ?_
            intro u9 hk ht _
            have hX : Turn (fun i => u2.heap.size ≤ i) u8 u9 := ht.mono (fun i hi _ => by subst hi; exact G10.out)
            refine hK _ _ hX ?_
            clear hK K
            simp only [Act.put]
            replace HX := Lib.hid (HX.out.trans hX)
            replace K10 := Lib.hid hk
            replace K9 := Lib.hid (K9.out.turn ht (fun e => N9_10.out e))
            clear hk ht hX
            refine wpGs_done ?_
            go_wp2
            go_meet
            exact ⟨g9, g10, rfl, rfl, ⟨K9.out, K10.out⟩, Below.trans HD.out (HX.out.below (B := u2.heap.size) (Nat.le_of_eq HN.out.symm) (fun i hi => hi))⟩
          · skip
            refine stepS_call (o := ⟨_, _, _, _, _, _⟩) rfl (by rfl) (fun K hK => ?_)
            refine wp_alloc_arr TS rfl arrz_TS ?_
            intro g9 u6 hg hk hb
            refine hK _ _ (Turn.ofBelow hb) ?_
            clear hK K
            simp only [Act.put, List.setIfInBounds_toArray, List.set_cons_zero, List.set_cons_succ]
            have G9 : Hid (u2.heap.size ≤ g9) := Nat.le_trans (Nat.le_of_eq HN.out.symm) (Nat.le_trans HX.out.size hg)
            have N9_10 : Hid (g9 ≠ g10) := (Nat.ne_of_lt (Nat.lt_of_lt_of_le K10.out.lt hg)).symm
            replace HX := Lib.hid (HX.out.trans (Turn.ofBelow hb))
            replace K10 := Lib.hid (K10.out.ext hb)
            have K9 := Lib.hid hk
            clear hk hg hb
            refine stepS_call (o := ⟨_, _, _, _, _, _⟩) rfl (by rfl) (fun K hK => ?_)
            go_simp
            refine (CA2.out u6).mono ?_
            rintro e u7 ⟨rfl, hb⟩
            refine hK _ _ (Turn.ofBelow hb) ?_
            clear hK K
            replace HX := Lib.hid (HX.out.trans (Turn.ofBelow hb))
            replace K10 := Lib.hid (K10.out.ext hb)
            replace K9 := Lib.hid (K9.out.ext hb)
            clear hb
            refine stepS_call (o := ⟨_, _, _, _, _, _⟩) rfl (by rfl) (fun K hK => ?_)
            refine wp_store_sc TS (.tmp 9) (.tmp 19) rfl g9 A1 _ TS (by rfl) (by rfl) arr_TS K9.out ?_
            intro u8 hk ht _
            have hX : Turn (fun i => u2.heap.size ≤ i) u7 u8 := ht.mono (fun i hi _ => by subst hi; exact G9.out)
            refine hK _ _ hX ?_
            clear hK K
            simp only [Act.put]
            replace HX := Lib.hid (HX.out.trans hX)
            replace K10 := Lib.hid (K10.out.turn ht (fun e => N9_10.out e.symm))
            replace K9 := Lib.hid hk
            clear hk ht hX
            refine stepS_call (o := ⟨_, _, _, _, _, _⟩) rfl (by rfl) (fun K hK => ?_)
            refine wp_store_sc TS (.tmp 10) (.tmp 22) rfl g10 A2 _ TS (by rfl) (by rfl) arr_TS K10.out ?_
            intro u9 hk ht _
            have hX : Turn (fun i => u2.heap.size ≤ i) u8 u9 := ht.mono (fun i hi _ => by subst hi; exact G10.out)
            refine hK _ _ hX ?_
            clear hK K
            simp only [Act.put]
            replace HX := Lib.hid (HX.out.trans hX)
            replace K10 := Lib.hid hk
            replace K9 := Lib.hid (K9.out.turn ht (fun e => N9_10.out e))
            clear hk ht hX
            refine wpGs_done ?_
            go_wp2
            go_meet
            exact ⟨g9, g10, rfl, rfl, ⟨K9.out, K10.out⟩, Below.trans HD.out (HX.out.below (B := u2.heap.size) (Nat.le_of_eq HN.out.symm) (fun i hi => hi))⟩
      · skip
        refine stepS_call (o := ⟨_, _, _, _, _, _⟩) rfl (by rfl) (fun K hK => ?_)
        refine wp_alloc_arr TS rfl arrz_TS ?_
        intro g9 u4 hg hk hb
        refine hK _ _ (Turn.ofBelow hb) ?_
        clear hK K
        simp only [Act.put, List.setIfInBounds_toArray, List.set_cons_zero, List.set_cons_succ]
        have G9 : Hid (u2.heap.size ≤ g9) := Nat.le_trans (Nat.le_of_eq HN.out.symm) (Nat.le_trans HX.out.size hg)
        replace HX := Lib.hid (HX.out.trans (Turn.ofBelow hb))
        have K9 := Lib.hid hk
        clear hk hg hb
        refine ⟨?_, ?_⟩
        · skip
          refine stepS_call (o := ⟨_, _, _, _, _, _⟩) rfl (by rfl) (fun K hK => ?_)
          go_simp
          refine (CA1.out u4).mono ?_
          rintro e u5 ⟨rfl, hb⟩
          refine hK _ _ (Turn.ofBelow hb) ?_
          clear hK K
          replace HX := Lib.hid (HX.out.trans (Turn.ofBelow hb))
          replace K9 := Lib.hid (K9.out.ext hb)
          clear hb
          refine ⟨?_, ?_⟩
          · skip
            refine stepS_call (o := ⟨_, _, _, _, _, _⟩) rfl (by rfl) (fun K hK => ?_)
            go_simp
            refine (CA2.out u5).mono ?_
            rintro e u6 ⟨rfl, hb⟩
            refine hK _ _ (Turn.ofBelow hb) ?_
            clear hK K
            replace HX := Lib.hid (HX.out.trans (Turn.ofBelow hb))
            replace K9 := Lib.hid (K9.out.ext hb)
            clear hb
            refine stepS_call (o := ⟨_, _, _, _, _, _⟩) rfl (by rfl) (fun K hK => ?_)
            refine wp_alloc_arr TS rfl arrz_TS ?_
            intro g10 u7 hg hk hb
            refine hK _ _ (Turn.ofBelow hb) ?_
            clear hK K
            simp only [Act.put, List.setIfInBounds_toArray, List.set_cons_zero, List.set_cons_succ]
            have G10 : Hid (u2.heap.size ≤ g10) := Nat.le_trans (Nat.le_of_eq HN.out.symm) (Nat.le_trans HX.out.size hg)
            have N10_9 : Hid (g10 ≠ g9) := (Nat.ne_of_lt (Nat.lt_of_lt_of_le K9.out.lt hg)).symm
            replace HX := Lib.hid (HX.out.trans (Turn.ofBelow hb))
            replace K9 := Lib.hid (K9.out.ext hb)
            have K10 := Lib.hid hk
            clear hk hg hb
            refine stepS_call (o := ⟨_, _, _, _, _, _⟩) rfl (by rfl) (fun K hK => ?_)
            refine wp_store_sc TS (.tmp 9) (.tmp 19) rfl g9 A1 _ TS (by rfl) (by rfl) arr_TS K9.out ?_
            intro u8 hk ht _
            have hX : Turn (fun i => u2.heap.size ≤ i) u7 u8 := ht.mono (fun i hi _ => by subst hi; exact G9.out)
            refine hK _ _ hX ?_
            clear hK K
            simp only [Act.put]
            replace HX := Lib.hid (HX.out.trans hX)
            replace K9 := Lib.hid hk
            replace K10 := Lib.hid (K10.out.turn ht (fun e => N10_9.out e))
            clear hk ht hX
            refine stepS_call (o := ⟨_, _, _, _, _, _⟩) rfl (by rfl) (fun K hK => ?_)
            refine wp_store_sc TS (.tmp 10) (.tmp 22) rfl g10 A2 _ TS (by rfl) (by rfl) arr_TS K10.out ?_
            intro u9 hk ht _
            have hX : Turn (fun i => u2.heap.size ≤ i) u8 u9 := ht.mono (fun i hi _ => by subst hi; exact G10.out)
            refine hK _ _ hX ?_
            clear hK K
            simp only [Act.put]
            replace HX := Lib.hid (HX.out.trans hX)
            replace K9 := Lib.hid (K9.out.turn ht (fun e => N10_9.out e.symm))
            replace K10 := Lib.hid hk
            clear hk ht hX
            refine wpGs_done ?_
            go_wp2
            go_meet
            exact ⟨g9, g10, rfl, rfl, ⟨K9.out, K10.out⟩, Below.trans HD.out (HX.out.below (B := u2.heap.size) (Nat.le_of_eq HN.out.symm) (fun i hi => hi))⟩
          · skip
            refine stepS_call (o := ⟨_, _, _, _, _, _⟩) rfl (by rfl) (fun K hK => ?_)
            refine wp_alloc_arr TS rfl arrz_TS ?_
            intro g10 u6 hg hk hb
            refine hK _ _ (Turn.ofBelow hb) ?_
            clear hK K
            simp only [Act.put, List.setIfInBounds_toArray, List.set_cons_zero, List.set_cons_succ]
            have G10 : Hid (u2.heap.size ≤ g10) := Nat.le_trans (Nat.le_of_eq HN.out.symm) (Nat.le_trans HX.out.size hg)
            have N10_9 : Hid (g10 ≠ g9) := (Nat.ne_of_lt (Nat.lt_of_lt_of_le K9.out.lt hg)).symm
            replace HX := Lib.hid (HX.out.trans (Turn.ofBelow hb))
            replace K9 := Lib.hid (K9.out.ext hb)
            have K10 := Lib.hid hk
            clear hk hg hb
            refine stepS_call (o := ⟨_, _, _, _, _, _⟩) rfl (by rfl) (fun K hK => ?_)
            go_simp
            refine (CA2.out u6).mono ?_
            rintro e u7 ⟨rfl, hb⟩
            refine hK _ _ (Turn.ofBelow hb) ?_
            clear hK K
            replace HX := Lib.hid (HX.out.trans (Turn.ofBelow hb))
            replace K9 := Lib.hid (K9.out.ext hb)
            replace K10 := Lib.hid (K10.out.ext hb)
            clear hb
            refine stepS_call (o := ⟨_, _, _, _, _, _⟩) rfl (by rfl) (fun K hK => ?_)
            refine wp_store_sc TS (.tmp 9) (.tmp 19) rfl g9 A1 _ TS (by rfl) (by rfl) arr_TS K9.out ?_
            intro u8 hk ht _
            have hX : Turn (fun i => u2.heap.size ≤ i) u7 u8 := ht.mono (fun i hi _ => by subst hi; exact G9.out)
            refine hK _ _ hX ?_
            clear hK K
            simp only [Act.put]
            replace HX := Lib.hid (HX.out.trans hX)
            replace K9 := Lib.hid hk
            replace K10 := Lib.hid (K10.out.turn ht (fun e => N10_9.out e))
            clear hk ht hX
            refine stepS_call (o := ⟨_, _, _, _, _, _⟩) rfl (by rfl) (fun K hK => ?_)
            refine wp_store_sc TS (.tmp 10) (.tmp 22) rfl g10 A2 _ TS (by rfl) (by rfl) arr_TS K10.out ?_
            intro u9 hk ht _
            have hX : Turn (fun i => u2.heap.size ≤ i) u8 u9 := ht.mono (fun i hi _ => by subst hi; exact G10.out)
            refine hK _ _ hX ?_
            clear hK K
            simp only [Act.put]
            replace HX := Lib.hid (HX.out.trans hX)
            replace K9 := Lib.hid (K9.out.turn ht (fun e => N10_9.out e.symm))
            replace K10 := Lib.hid hk
            clear hk ht hX
            refine wpGs_done ?_
            go_wp2
            go_meet
            exact ⟨g9, g10, rfl, rfl, ⟨K9.out, K10.out⟩, Below.trans HD.out (HX.out.below (B := u2.heap.size) (Nat.le_of_eq HN.out.symm) (fun i hi => hi))⟩
        · skip
          refine stepS_call (o := ⟨_, _, _, _, _, _⟩) rfl (by rfl) (fun K hK => ?_)
          refine wp_alloc_arr TS rfl arrz_TS ?_
          intro g10 u5 hg hk hb
          refine hK _ _ (Turn.ofBelow hb) ?_
          clear hK K
          simp only [Act.put, List.setIfInBounds_toArray, List.set_cons_zero, List.set_cons_succ]
          have G10 : Hid (u2.heap.size ≤ g10) := Nat.le_trans (Nat.le_of_eq HN.out.symm) (Nat.le_trans HX.out.size hg)
          have N10_9 : Hid (g10 ≠ g9) := (Nat.ne_of_lt (Nat.lt_of_lt_of_le K9.out.lt hg)).symm
          replace HX := Lib.hid (HX.out.trans (Turn.ofBelow hb))
          replace K9 := Lib.hid (K9.out.ext hb)
          have K10 := Lib.hid hk
          clear hk hg hb
          refine stepS_call (o := ⟨_, _, _, _, _, _⟩) rfl (by rfl) (fun K hK => ?_)
          go_simp
          refine (CA1.out u5).mono ?_
          rintro e u6 ⟨rfl, hb⟩
          refine hK _ _ (Turn.ofBelow hb) ?_
          clear hK K
          replace HX := Lib.hid (HX.out.trans (Turn.ofBelow hb))
          replace K9 := Lib.hid (K9.out.ext hb)
          replace K10 := Lib.hid (K10.out.ext hb)
          clear hb
          refine stepS_call (o := ⟨_, _, _, _, _, _⟩) rfl (by rfl) (fun K hK => ?_)
          go_simp
          refine (CA2.out u6).mono ?_
          rintro e u7 ⟨rfl, hb⟩
          refine hK _ _ (Turn.ofBelow hb) ?_
          clear hK K
          replace HX := Lib.hid (HX.out.trans (Turn.ofBelow hb))
          replace K9 := Lib.hid (K9.out.ext hb)
          replace K10 := Lib.hid (K10.out.ext hb)
          clear hb
          refine stepS_call (o := ⟨_, _, _, _, _, _⟩) rfl (by rfl) (fun K hK => ?_)
          refine wp_store_sc TS (.tmp 9) (.tmp 19) rfl g9 A1 _ TS (by rfl) (by rfl) arr_TS K9.out ?_
          intro u8 hk ht _
          have hX : Turn (fun i => u2.heap.size ≤ i) u7 u8 := ht.mono (fun i hi _ => by subst hi; exact G9.out)
          refine hK _ _ hX ?_
          clear hK K
          simp only [Act.put]
          replace HX := Lib.hid (HX.out.trans hX)
          replace K9 := Lib.hid hk
          replace K10 := Lib.hid (K10.out.turn ht (fun e => N10_9.out e))
          clear hk ht hX
          refine stepS_call (o := ⟨_, _, _, _, _, _⟩) rfl (by rfl) (fun K hK => ?_)
          refine wp_store_sc TS (.tmp 10) (.tmp 22) rfl g10 A2 _ TS (by rfl) (by rfl) arr_TS K10.out ?_
          intro u9 hk ht _
          have hX : Turn (fun i => u2.heap.size ≤ i) u8 u9 := ht.mono (fun i hi _ => by subst hi; exact G10.out)
          refine hK _ _ hX ?_
          clear hK K
          simp only [Act.put]
          replace HX := Lib.hid (HX.out.trans hX)
          replace K9 := Lib.hid (K9.out.turn ht (fun e => N10_9.out e.symm))
          replace K10 := Lib.hid hk
          clear hk ht hX
          refine wpGs_done ?_
          go_wp2
          go_meet
          exact ⟨g9, g10, rfl, rfl, ⟨K9.out, K10.out⟩, Below.trans HD.out (HX.out.below (B := u2.heap.size) (Nat.le_of_eq HN.out.symm) (fun i hi => hi))⟩
      · skip
        refine stepS_call (o := ⟨_, _, _, _, _, _⟩) rfl (by rfl) (fun K hK => ?_)
        refine wp_alloc_arr TS rfl arrz_TS ?_
        intro g10 u4 hg hk hb
        refine hK _ _ (Turn.ofBelow hb) ?_
        clear hK K
        simp only [Act.put, List.setIfInBounds_toArray, List.set_cons_zero, List.set_cons_succ]
        have G10 : Hid (u2.heap.size ≤ g10) := Nat.le_trans (Nat.le_of_eq HN.out.symm) (Nat.le_trans HX.out.size hg)
        replace HX := Lib.hid (HX.out.trans (Turn.ofBelow hb))
        have K10 := Lib.hid hk
        clear hk hg hb
        refine ⟨?_, ?_⟩
        · skip
          refine stepS_call (o := ⟨_, _, _, _, _, _⟩) rfl (by rfl) (fun K hK => ?_)
          go_simp
          refine (CA1.out u4).mono ?_
          rintro e u5 ⟨rfl, hb⟩
          refine hK _ _ (Turn.ofBelow hb) ?_
          clear hK K
          replace HX := Lib.hid (HX.out.trans (Turn.ofBelow hb))
          replace K10 := Lib.hid (K10.out.ext hb)
          clear hb
          refine ⟨?_, ?_⟩
          · skip
            refine stepS_call (o := ⟨_, _, _, _, _, _⟩) rfl (by rfl) (fun K hK => ?_)
            go_simp
            refine (CA2.out u5).mono ?_
            rintro e u6 ⟨rfl, hb⟩
            refine hK _ _ (Turn.ofBelow hb) ?_
            clear hK K
            replace HX := Lib.hid (HX.out.trans (Turn.ofBelow hb))
            replace K10 := Lib.hid (K10.out.ext hb)
            clear hb
            refine stepS_call (o := ⟨_, _, _, _, _, _⟩) rfl (by rfl) (fun K hK => ?_)
            refine wp_alloc_arr TS rfl arrz_TS ?_
            intro g9 u7 hg hk hb
            refine hK _ _ (Turn.ofBelow hb) ?_
            clear hK K
            simp only [Act.put, List.setIfInBounds_toArray, List.set_cons_zero, List.set_cons_succ]
            have G9 : Hid (u2.heap.size ≤ g9) := Nat.le_trans (Nat.le_of_eq HN.out.symm) (Nat.le_trans HX.out.size hg)
            have N9_10 : Hid (g9 ≠ g10) := (Nat.ne_of_lt (Nat.lt_of_lt_of_le K10.out.lt hg)).symm
            replace HX := Lib.hid (HX.out.trans (Turn.ofBelow hb))
            replace K10 := Lib.hid (K10.out.ext hb)
            have K9 := Lib.hid hk
            clear hk hg hb
            refine stepS_call (o := ⟨_, _, _, _, _, _⟩) rfl (by rfl) (fun K hK => ?_)
            refine wp_store_sc TS (.tmp 9) (.tmp 19) rfl g9 A1 _ TS (by rfl) (by rfl) arr_TS K9.out ?_
            intro u8 hk ht _
            have hX : Turn (fun i => u2.heap.size ≤ i) u7 u8 := ht.mono (fun i hi _ => by subst hi; exact G9.out)
            refine hK _ _ hX ?_
            clear hK K
            simp only [Act.put]
            replace HX := Lib.hid (HX.out.trans hX)
            replace K10 := Lib.hid (K10.out.turn ht (fun e => N9_10.out e.symm))
            replace K9 := Lib.hid hk
            clear hk ht hX
            refine stepS_call (o := ⟨_, _, _, _, _, _⟩) rfl (by rfl) (fun K hK => ?_)
            refine wp_store_sc TS (.tmp 10) (.tmp 22) rfl g10 A2 _ TS (by rfl) (by rfl) arr_TS K10.out ?_
            intro u9 hk ht _
            have hX : Turn (fun i => u2.heap.size ≤ i) u8 u9 := ht.mono (fun i hi _ => by subst hi; exact G10.out)
            refine hK _ _ hX ?_
            clear hK K
            simp only [Act.put]
            replace HX := Lib.hid (HX.out.trans hX)
            replace K10 := Lib.hid hk
            replace K9 := Lib.hid (K9.out.turn ht (fun e => N9_10.out e))
            clear hk ht hX
            refine wpGs_done ?_
            go_wp2
            go_meet
            exact ⟨g9, g10, rfl, rfl, ⟨K9.out, K10.out⟩, Below.trans HD.out (HX.out.below (B := u2.heap.size) (Nat.le_of_eq HN.out.symm) (fun i hi => hi))⟩
          · skip
            refine stepS_call (o := ⟨_, _, _, _, _, _⟩) rfl (by rfl) (fun K hK => ?_)
            refine wp_alloc_arr TS rfl arrz_TS ?_
            intro g9 u6 hg hk hb
            refine hK _ _ (Turn.ofBelow hb) ?_
            clear hK K
            simp only [Act.put, List.setIfInBounds_toArray, List.set_cons_zero, List.set_cons_succ]
            have G9 : Hid (u2.heap.size ≤ g9) := Nat.le_trans (Nat.le_of_eq HN.out.symm) (Nat.le_trans HX.out.size hg)
            have N9_10 : Hid (g9 ≠ g10) := (Nat.ne_of_lt (Nat.lt_of_lt_of_le K10.out.lt hg)).symm
            replace HX := Lib.hid (HX.out.trans (Turn.ofBelow hb))
            replace K10 := Lib.hid (K10.out.ext hb)
            have K9 := Lib.hid hk
            clear hk hg hb
            refine stepS_call (o := ⟨_, _, _, _, _, _⟩) rfl (by rfl) (fun K hK => ?_)
            go_simp
            refine (CA2.out u6).mono ?_
            rintro e u7 ⟨rfl, hb⟩
            refine hK _ _ (Turn.ofBelow hb) ?_
            clear hK K
            replace HX := Lib.hid (HX.out.trans (Turn.ofBelow hb))
            replace K10 := Lib.hid (K10.out.ext hb)
            replace K9 := Lib.hid (K9.out.ext hb)
            clear hb
            refine stepS_call (o := ⟨_, _, _, _, _, _⟩) rfl (by rfl) (fun K hK => ?_)
            refine wp_store_sc TS (.tmp 9) (.tmp 19) rfl g9 A1 _ TS (by rfl) (by rfl) arr_TS K9.out ?_
            intro u8 hk ht _
            have hX : Turn (fun i => u2.heap.size ≤ i) u7 u8 := ht.mono (fun i hi _ => by subst hi; exact G9.out)
            refine hK _ _ hX ?_
            clear hK K
            simp only [Act.put]
            replace HX := Lib.hid (HX.out.trans hX)
            replace K10 := Lib.hid (K10.out.turn ht (fun e => N9_10.out e.symm))
            replace K9 := Lib.hid hk
            clear hk ht hX
            refine stepS_call (o := ⟨_, _, _, _, _, _⟩) rfl (by rfl) (fun K hK => ?_)
            refine wp_store_sc TS (.tmp 10) (.tmp 22) rfl g10 A2 _ TS (by rfl) (by rfl) arr_TS K10.out ?_
            intro u9 hk ht _
            have hX : Turn (fun i => u2.heap.size ≤ i) u8 u9 := ht.mono (fun i hi _ => by subst hi; exact G10.out)
            refine hK _ _ hX ?_
            clear hK K
            simp only [Act.put]
            replace HX := Lib.hid (HX.out.trans hX)
            replace K10 := Lib.hid hk
            replace K9 := Lib.hid (K9.out.turn ht (fun e => N9_10.out e))
            clear hk ht hX
            refine wpGs_done ?_
            go_wp2
            go_meet
            exact ⟨g9, g10, rfl, rfl, ⟨K9.out, K10.out⟩, Below.trans HD.out (HX.out.below (B := u2.heap.size) (Nat.le_of_eq HN.out.symm) (fun i hi => hi))⟩
        · skip
          refine stepS_call (o := ⟨_, _, _, _, _, _⟩) rfl (by rfl) (fun K hK => ?_)
          refine wp_alloc_arr TS rfl arrz_TS ?_
          intro g9 u5 hg hk hb
          refine hK _ _ (Turn.ofBelow hb) ?_
          clear hK K
          simp only [Act.put, List.setIfInBounds_toArray, List.set_cons_zero, List.set_cons_succ]
          have G9 : Hid (u2.heap.size ≤ g9) := Nat.le_trans (Nat.le_of_eq HN.out.symm) (Nat.le_trans HX.out.size hg)
          have N9_10 : Hid (g9 ≠ g10) := (Nat.ne_of_lt (Nat.lt_of_lt_of_le K10.out.lt hg)).symm
          replace HX := Lib.hid (HX.out.trans (Turn.ofBelow hb))
          replace K10 := Lib.hid (K10.out.ext hb)
          have K9 := Lib.hid hk
          clear hk hg hb
          refine stepS_call (o := ⟨_, _, _, _, _, _⟩) rfl (by rfl) (fun K hK => ?_)
          go_simp
          refine (CA1.out u5).mono ?_
          rintro e u6 ⟨rfl, hb⟩
          refine hK _ _ (Turn.ofBelow hb) ?_
          clear hK K
          replace HX := Lib.hid (HX.out.trans (Turn.ofBelow hb))
          replace K10 := Lib.hid (K10.out.ext hb)
          replace K9 := Lib.hid (K9.out.ext hb)
          clear hb
          refine stepS_call (o := ⟨_, _, _, _, _, _⟩) rfl (by rfl) (fun K hK => ?_)
          go_simp
          refine (CA2.out u6).mono ?_
          rintro e u7 ⟨rfl, hb⟩
          refine hK _ _ (Turn.ofBelow hb) ?_
          clear hK K
          replace HX := Lib.hid (HX.out.trans (Turn.ofBelow hb))
          replace K10 := Lib.hid (K10.out.ext hb)
          replace K9 := Lib.hid (K9.out.ext hb)
          clear hb
          refine stepS_call (o := ⟨_, _, _, _, _, _⟩) rfl (by rfl) (fun K hK => ?_)
          refine wp_store_sc TS (.tmp 9) (.tmp 19) rfl g9 A1 _ TS (by rfl) (by rfl) arr_TS K9.out ?_
          intro u8 hk ht _
          have hX : Turn (fun i => u2.heap.size ≤ i) u7 u8 := ht.mono (fun i hi _ => by subst hi; exact G9.out)
          refine hK _ _ hX ?_
          clear hK K
          simp only [Act.put]
          replace HX := Lib.hid (HX.out.trans hX)
          replace K10 := Lib.hid (K10.out.turn ht (fun e => N9_10.out e.symm))
          replace K9 := Lib.hid hk
          clear hk ht hX
          refine stepS_call (o := ⟨_, _, _, _, _, _⟩) rfl (by rfl) (fun K hK => ?_)
          refine wp_store_sc TS (.tmp 10) (.tmp 22) rfl g10 A2 _ TS (by rfl) (by rfl) arr_TS K10.out ?_
          intro u9 hk ht _
          have hX : Turn (fun i => u2.heap.size ≤ i) u8 u9 := ht.mono (fun i hi _ => by subst hi; exact G10.out)
          refine hK _ _ hX ?_
          clear hK K
          simp only [Act.put]
          replace HX := Lib.hid (HX.out.trans hX)
          replace K10 := Lib.hid hk
          replace K9 := Lib.hid (K9.out.turn ht (fun e => N9_10.out e))
          clear hk ht hX
          refine wpGs_done ?_
          go_wp2
          go_meet
          exact ⟨g9, g10, rfl, rfl, ⟨K9.out, K10.out⟩, Below.trans HD.out (HX.out.below (B := u2.heap.size) (Nat.le_of_eq HN.out.symm) (fun i hi => hi))⟩
    case rest =>
      obtain ⟨g9, g10, rfl, rfl, hk, hb⟩ := hcut
      obtain ⟨k9, k10⟩ := hk.out
      replace hb := hb.out
      generalize wc = u4 at *
      replace HB := Lib.hid (HB.out.trans (hb.mono HB.out.size))
      replace HG := Lib.hid (HG.out.below hb)
      replace HT := Lib.hid (HT.out.below hb)
      replace K3 := Lib.hid (K3.out.ext hb)
      replace K4 := Lib.hid (K4.out.ext hb)
      replace K7 := Lib.hid (K7.out.ext hb)
      replace K8 := Lib.hid (K8.out.ext hb)
      have K9 := Lib.hid k9
      have K10 := Lib.hid k10
      clear hk hb k9 k10
      go_wp2_with fail
      refine wp_region_gr [(0, true), (1, true), (3, true), (2, false), (4, true), (5, true), (6, true), (7, true), (9, true), (8, false), (10, true), (11, true), (12, true), (13, true), (15, true), (18, true), (14, false), (16, false), (17, true), (19, false), (20, true), (21, true)] (by kernel_rfl) (by kernel_rfl) (by kernel_rfl) (by kernel_rfl) (fun _ _ _ _ _ h => h) ?_
      have hb : Ext u4 u4.drew := Ext.drew _
      replace HB := Lib.hid (HB.out.trans (hb.mono HB.out.size))
      replace HG := Lib.hid (HG.out.below hb)
      replace HT := Lib.hid (HT.out.below hb)
      replace K3 := Lib.hid (K3.out.ext hb)
      replace K4 := Lib.hid (K4.out.ext hb)
      replace K7 := Lib.hid (K7.out.ext hb)
      replace K8 := Lib.hid (K8.out.ext hb)
      replace K9 := Lib.hid (K9.out.ext hb)
      replace K10 := Lib.hid (K10.out.ext hb)
      clear hb
      generalize u4.drew = u5 at *
      refine wpGr_read (o := ⟨_, _, _, _, _, _⟩) (v := .agg (sc A1)) rfl (by rfl) (fun w' hw' => rd_load_sc TS (.tmp 9) rfl g9 A1 TS (by rfl) arr_TS (K9.out.ext hw')) ?_
      simp only [Act.put, List.setIfInBounds_toArray, List.set_cons_zero, List.set_cons_succ]
      refine wpGr_read (o := ⟨_, _, _, _, _, _⟩) (v := .agg (sc A2)) rfl (by rfl) (fun w' hw' => rd_load_sc TS (.tmp 10) rfl g10 A2 TS (by rfl) arr_TS (K10.out.ext hw')) ?_
      simp only [Act.put, List.setIfInBounds_toArray, List.set_cons_zero, List.set_cons_succ]
      refine wpGr_read (o := ⟨_, _, _, _, _, _⟩) (v := .agg (sc f)) rfl (by rfl) (fun w' hw' => rd_load_sc TS (.tmp 7) rfl g7 f TS (by rfl) arr_TS (K7.out.ext hw')) ?_
      simp only [Act.put, List.setIfInBounds_toArray, List.set_cons_zero, List.set_cons_succ]
      refine wpGr_call (o := ⟨_, _, _, _, _, _⟩) rfl (by rfl) (fun K hK => ?_)
      go_simp
      refine (CA3.out u5).mono ?_
      rintro e u6 ⟨rfl, hb⟩
      refine hK _ _ hb ?_
      clear hK K
      replace HB := Lib.hid (HB.out.trans (hb.mono HB.out.size))
      replace HG := Lib.hid (HG.out.below hb)
      replace HT := Lib.hid (HT.out.below hb)
      replace K3 := Lib.hid (K3.out.ext hb)
      replace K4 := Lib.hid (K4.out.ext hb)
      replace K7 := Lib.hid (K7.out.ext hb)
      replace K8 := Lib.hid (K8.out.ext hb)
      replace K9 := Lib.hid (K9.out.ext hb)
      replace K10 := Lib.hid (K10.out.ext hb)
      clear hb
      refine wpGr_read (o := ⟨_, _, _, _, _, _⟩) (v := .bool false) rfl (by rfl) (fun w' _ => rd_neq_sc (.tmp 25) (.tmp 26) TS rfl A3 f (by rfl) (by rfl) S1.out) ?_
      simp only [Act.put, List.setIfInBounds_toArray, List.set_cons_zero, List.set_cons_succ]
      iterate 1 (refine wpGr_read (o := ⟨_, _, _, _, _, _⟩) (v := ?_) rfl (by rfl) ?_ ?_; rotate_left; (intro w' hw'; go_simp; with_reducible rfl); simp only [Act.put, List.setIfInBounds_toArray, List.set_cons_zero, List.set_cons_succ])
      refine wpGr_read (o := ⟨_, _, _, _, _, _⟩) (v := .agg (sc A1)) rfl (by rfl) (fun w' hw' => rd_load_sc TS (.tmp 9) rfl g9 A1 TS (by rfl) arr_TS (K9.out.ext hw')) ?_
      simp only [Act.put, List.setIfInBounds_toArray, List.set_cons_zero, List.set_cons_succ]
      refine wpGr_read (o := ⟨_, _, _, _, _, _⟩) (v := .agg (sc A2)) rfl (by rfl) (fun w' hw' => rd_load_sc TS (.tmp 10) rfl g10 A2 TS (by rfl) arr_TS (K10.out.ext hw')) ?_
      simp only [Act.put, List.setIfInBounds_toArray, List.set_cons_zero, List.set_cons_succ]
      refine wpGr_read (o := ⟨_, _, _, _, _, _⟩) (v := .agg (sc (fun _ => false))) rfl (by rfl) (fun w' _ => rd_build_TS rfl) ?_
      simp only [Act.put, List.setIfInBounds_toArray, List.set_cons_zero, List.set_cons_succ]
      refine wpGr_call (o := ⟨_, _, _, _, _, _⟩) rfl (by rfl) (fun K hK => ?_)
      go_simp
      refine (CA4.out u6).mono ?_
      rintro e u7 ⟨rfl, hb⟩
      refine hK _ _ hb ?_
      clear hK K
      replace HB := Lib.hid (HB.out.trans (hb.mono HB.out.size))
      replace HG := Lib.hid (HG.out.below hb)
      replace HT := Lib.hid (HT.out.below hb)
      replace K3 := Lib.hid (K3.out.ext hb)
      replace K4 := Lib.hid (K4.out.ext hb)
      replace K7 := Lib.hid (K7.out.ext hb)
      replace K8 := Lib.hid (K8.out.ext hb)
      replace K9 := Lib.hid (K9.out.ext hb)
      replace K10 := Lib.hid (K10.out.ext hb)
      clear hb
      refine wpGr_read (o := ⟨_, _, _, _, _, _⟩) (v := .bool false) rfl (by rfl) (fun w' _ => rd_neq_sc (.tmp 31) (.tmp 32) TS rfl A4 (fun _ => false) (by rfl) (by rfl) S2.out) ?_
      simp only [Act.put, List.setIfInBounds_toArray, List.set_cons_zero, List.set_cons_succ]
      iterate 1 (refine wpGr_read (o := ⟨_, _, _, _, _, _⟩) (v := ?_) rfl (by rfl) ?_ ?_; rotate_left; (intro w' hw'; go_simp; with_reducible rfl); simp only [Act.put, List.setIfInBounds_toArray, List.set_cons_zero, List.set_cons_succ])
      iterate 1 (refine wpGr_read (o := ⟨_, _, _, _, _, _⟩) (v := ?_) rfl (by rfl) ?_ ?_; rotate_left; (intro w' hw'; go_simp; with_reducible rfl); simp only [Act.put, List.setIfInBounds_toArray, List.set_cons_zero, List.set_cons_succ])
      refine wpGr_read (o := ⟨_, _, _, _, _, _⟩) (v := .agg (sc A1)) rfl (by rfl) (fun w' hw' => rd_load_sc TS (.tmp 9) rfl g9 A1 TS (by rfl) arr_TS (K9.out.ext hw')) ?_
      simp only [Act.put, List.setIfInBounds_toArray, List.set_cons_zero, List.set_cons_succ]
      refine wpGr_read (o := ⟨_, _, _, _, _, _⟩) (v := .agg (sc A2)) rfl (by rfl) (fun w' hw' => rd_load_sc TS (.tmp 10) rfl g10 A2 TS (by rfl) arr_TS (K10.out.ext hw')) ?_
      simp only [Act.put, List.setIfInBounds_toArray, List.set_cons_zero, List.set_cons_succ]
      refine wpGr_read (o := ⟨_, _, _, _, _, _⟩) (v := .agg (sc f)) rfl (by rfl) (fun w' hw' => rd_load_sc TS (.tmp 7) rfl g7 f TS (by rfl) arr_TS (K7.out.ext hw')) ?_
      simp only [Act.put, List.setIfInBounds_toArray, List.set_cons_zero, List.set_cons_succ]
      refine wpGr_call (o := ⟨_, _, _, _, _, _⟩) rfl (by rfl) (fun K hK => ?_)
      go_simp
      refine (Dc1.out u7).mono ?_
      rintro e u8 ⟨rfl, hb⟩
      refine hK _ _ hb ?_
      clear hK K
      replace HB := Lib.hid (HB.out.trans (hb.mono HB.out.size))
      replace HG := Lib.hid (HG.out.below hb)
      replace HT := Lib.hid (HT.out.below hb)
      replace K3 := Lib.hid (K3.out.ext hb)
      replace K4 := Lib.hid (K4.out.ext hb)
      replace K7 := Lib.hid (K7.out.ext hb)
      replace K8 := Lib.hid (K8.out.ext hb)
      replace K9 := Lib.hid (K9.out.ext hb)
      replace K10 := Lib.hid (K10.out.ext hb)
      clear hb
      refine wpGr_call (o := ⟨_, _, _, _, _, _⟩) rfl (by rfl) (fun K hK => ?_)
      go_simp
      refine (Dc2.out u8).mono ?_
      rintro e u9 ⟨rfl, hb⟩
      refine hK _ _ hb ?_
      clear hK K
      replace HB := Lib.hid (HB.out.trans (hb.mono HB.out.size))
      replace HG := Lib.hid (HG.out.below hb)
      replace HT := Lib.hid (HT.out.below hb)
      replace K3 := Lib.hid (K3.out.ext hb)
      replace K4 := Lib.hid (K4.out.ext hb)
      replace K7 := Lib.hid (K7.out.ext hb)
      replace K8 := Lib.hid (K8.out.ext hb)
      replace K9 := Lib.hid (K9.out.ext hb)
      replace K10 := Lib.hid (K10.out.ext hb)
      clear hb
      iterate 1 (refine wpGr_read (o := ⟨_, _, _, _, _, _⟩) (v := ?_) rfl (by rfl) ?_ ?_; rotate_left; (intro w' hw'; go_simp; with_reducible rfl); simp only [Act.put, List.setIfInBounds_toArray, List.set_cons_zero, List.set_cons_succ])
      refine wpGr_call (o := ⟨_, _, _, _, _, _⟩) rfl (by rfl) (fun K hK => ?_)
      go_simp
      refine (DC.out u9).mono ?_
      rintro e u10 ⟨rfl, hb⟩
      refine hK _ _ hb ?_
      clear hK K
      replace HB := Lib.hid (HB.out.trans (hb.mono HB.out.size))
      replace HG := Lib.hid (HG.out.below hb)
      replace HT := Lib.hid (HT.out.below hb)
      replace K3 := Lib.hid (K3.out.ext hb)
      replace K4 := Lib.hid (K4.out.ext hb)
      replace K7 := Lib.hid (K7.out.ext hb)
      replace K8 := Lib.hid (K8.out.ext hb)
      replace K9 := Lib.hid (K9.out.ext hb)
      replace K10 := Lib.hid (K10.out.ext hb)
      clear hb
      iterate 1 (refine wpGr_read (o := ⟨_, _, _, _, _, _⟩) (v := ?_) rfl (by rfl) ?_ ?_; rotate_left; (intro w' hw'; go_simp; with_reducible rfl); simp only [Act.put, List.setIfInBounds_toArray, List.set_cons_zero, List.set_cons_succ])
      iterate 1 (refine wpGr_read (o := ⟨_, _, _, _, _, _⟩) (v := ?_) rfl (by rfl) ?_ ?_; rotate_left; (intro w' hw'; go_simp; with_reducible rfl); simp only [Act.put, List.setIfInBounds_toArray, List.set_cons_zero, List.set_cons_succ])
      refine wpGr_done ?_
      by_cases h0 : x < 0
      · skip
        as_aux_lemma =>
        have CT := Lib.hid (fun w => take_neg f x w h0)
        go_wp2_with (first
          | (show wpList _ _ _ (⟨some 46, _, _, _, _, _⟩ :: _) _ _; refine wpList_load_sc rfl TS (.tmp 7) rfl g7 f TS (by rfl) arr_TS K7.out ?_))
        refine (CT.out u10).mono ?_
        rintro e u11 ⟨rfl, hb⟩
        replace HB := Lib.hid (HB.out.trans (hb.mono HB.out.size))
        replace HG := Lib.hid (HG.out.below hb)
        replace HT := Lib.hid (HT.out.below hb)
        replace K3 := Lib.hid (K3.out.ext hb)
        replace K4 := Lib.hid (K4.out.ext hb)
        replace K7 := Lib.hid (K7.out.ext hb)
        replace K8 := Lib.hid (K8.out.ext hb)
        replace K9 := Lib.hid (K9.out.ext hb)
        replace K10 := Lib.hid (K10.out.ext hb)
        clear hb
        go_wp2_with (first
          | (show wpList _ _ _ (⟨some 12, _, _, _, _, _⟩ :: _) _ _; refine wpList_alloc_arr rfl TS rfl arrz_TS ?_; intro g12 v1 hg1 hk1 hb1)
          | (show wpList _ _ _ (⟨none, _, _, _, _, _⟩ :: _) _ _; refine wpList_store_sc rfl TS (.tmp 12) (.tmp 51) rfl g12 (fun _ => false) _ TS (by rfl) (by rfl) arr_TS hk1 ?_; intro v2 hk2 ht2 _)
          | (show wpList _ _ _ (⟨some 63, _, _, _, _, _⟩ :: _) _ _; refine wpList_load_sc rfl TS (.tmp 7) rfl g7 f TS (by rfl) arr_TS ((K7.out.ext hb1).turn ht2 (fun (e : g7 = g12) => by have := K7.out.lt; omega)) ?_))
        have hb : Ext u11 v2 := hb1.trans (ht2.below hb1.size (fun i hi => by subst hi; exact hg1))
        replace HB := Lib.hid (HB.out.trans (hb.mono HB.out.size))
        replace HG := Lib.hid (HG.out.below hb)
        replace HT := Lib.hid (HT.out.below hb)
        replace K3 := Lib.hid (K3.out.ext hb)
        replace K4 := Lib.hid (K4.out.ext hb)
        replace K7 := Lib.hid (K7.out.ext hb)
        replace K8 := Lib.hid (K8.out.ext hb)
        replace K9 := Lib.hid (K9.out.ext hb)
        replace K10 := Lib.hid (K10.out.ext hb)
        clear hb hk1 hk2 hg1 hb1 ht2
        refine (num_any (errC 1) 1 v2 (errC_is 1) HG.out).mono ?_
        rintro e u12 ⟨rfl, hb⟩
        replace HB := Lib.hid (HB.out.trans (hb.mono HB.out.size))
        replace HG := Lib.hid (HG.out.below hb)
        replace HT := Lib.hid (HT.out.below hb)
        replace K3 := Lib.hid (K3.out.ext hb)
        replace K4 := Lib.hid (K4.out.ext hb)
        replace K7 := Lib.hid (K7.out.ext hb)
        replace K8 := Lib.hid (K8.out.ext hb)
        replace K9 := Lib.hid (K9.out.ext hb)
        replace K10 := Lib.hid (K10.out.ext hb)
        clear hb
        go_wp2_with fail
        refine (zsure_any u12 HG.out HT.out).mono ?_
        rintro e u13 ⟨rfl, hb⟩
        replace HB := Lib.hid (HB.out.trans (hb.mono HB.out.size))
        replace HG := Lib.hid (HG.out.below hb)
        replace HT := Lib.hid (HT.out.below hb)
        replace K3 := Lib.hid (K3.out.ext hb)
        replace K4 := Lib.hid (K4.out.ext hb)
        replace K7 := Lib.hid (K7.out.ext hb)
        replace K8 := Lib.hid (K8.out.ext hb)
        replace K9 := Lib.hid (K9.out.ext hb)
        replace K10 := Lib.hid (K10.out.ext hb)
        clear hb
        go_wp2
        go_ret
        exact ⟨rfl, HB.out⟩
      by_cases h1 : (C : Int) < x
      · skip
        as_aux_lemma =>
        have CT := Lib.hid (fun w => take_many f x w (by rw [HC.out]; exact h1))
        go_wp2_with (first
          | (show wpList _ _ _ (⟨some 46, _, _, _, _, _⟩ :: _) _ _; refine wpList_load_sc rfl TS (.tmp 7) rfl g7 f TS (by rfl) arr_TS K7.out ?_))
        refine (CT.out u10).mono ?_
        rintro e u11 ⟨rfl, hb⟩
        replace HB := Lib.hid (HB.out.trans (hb.mono HB.out.size))
        replace HG := Lib.hid (HG.out.below hb)
        replace HT := Lib.hid (HT.out.below hb)
        replace K3 := Lib.hid (K3.out.ext hb)
        replace K4 := Lib.hid (K4.out.ext hb)
        replace K7 := Lib.hid (K7.out.ext hb)
        replace K8 := Lib.hid (K8.out.ext hb)
        replace K9 := Lib.hid (K9.out.ext hb)
        replace K10 := Lib.hid (K10.out.ext hb)
        clear hb
        go_wp2_with (first
          | (show wpList _ _ _ (⟨some 12, _, _, _, _, _⟩ :: _) _ _; refine wpList_alloc_arr rfl TS rfl arrz_TS ?_; intro g12 v1 hg1 hk1 hb1)
          | (show wpList _ _ _ (⟨none, _, _, _, _, _⟩ :: _) _ _; refine wpList_store_sc rfl TS (.tmp 12) (.tmp 51) rfl g12 (fun _ => false) _ TS (by rfl) (by rfl) arr_TS hk1 ?_; intro v2 hk2 ht2 _)
          | (show wpList _ _ _ (⟨some 63, _, _, _, _, _⟩ :: _) _ _; refine wpList_load_sc rfl TS (.tmp 7) rfl g7 f TS (by rfl) arr_TS ((K7.out.ext hb1).turn ht2 (fun (e : g7 = g12) => by have := K7.out.lt; omega)) ?_))
        have hb : Ext u11 v2 := hb1.trans (ht2.below hb1.size (fun i hi => by subst hi; exact hg1))
        replace HB := Lib.hid (HB.out.trans (hb.mono HB.out.size))
        replace HG := Lib.hid (HG.out.below hb)
        replace HT := Lib.hid (HT.out.below hb)
        replace K3 := Lib.hid (K3.out.ext hb)
        replace K4 := Lib.hid (K4.out.ext hb)
        replace K7 := Lib.hid (K7.out.ext hb)
        replace K8 := Lib.hid (K8.out.ext hb)
        replace K9 := Lib.hid (K9.out.ext hb)
        replace K10 := Lib.hid (K10.out.ext hb)
        clear hb hk1 hk2 hg1 hb1 ht2
        refine (DC.out v2).mono ?_
        rintro e u12 ⟨rfl, hb⟩
        replace HB := Lib.hid (HB.out.trans (hb.mono HB.out.size))
        replace HG := Lib.hid (HG.out.below hb)
        replace HT := Lib.hid (HT.out.below hb)
        replace K3 := Lib.hid (K3.out.ext hb)
        replace K4 := Lib.hid (K4.out.ext hb)
        replace K7 := Lib.hid (K7.out.ext hb)
        replace K8 := Lib.hid (K8.out.ext hb)
        replace K9 := Lib.hid (K9.out.ext hb)
        replace K10 := Lib.hid (K10.out.ext hb)
        clear hb
        go_wp2_with fail
        refine (num_any (errC 8) 8 u12 (errC_is 8) HG.out).mono ?_
        rintro e u13 ⟨rfl, hb⟩
        replace HB := Lib.hid (HB.out.trans (hb.mono HB.out.size))
        replace HG := Lib.hid (HG.out.below hb)
        replace HT := Lib.hid (HT.out.below hb)
        replace K3 := Lib.hid (K3.out.ext hb)
        replace K4 := Lib.hid (K4.out.ext hb)
        replace K7 := Lib.hid (K7.out.ext hb)
        replace K8 := Lib.hid (K8.out.ext hb)
        replace K9 := Lib.hid (K9.out.ext hb)
        replace K10 := Lib.hid (K10.out.ext hb)
        clear hb
        go_wp2_with fail
        refine (zsure_any u13 HG.out HT.out).mono ?_
        rintro e u14 ⟨rfl, hb⟩
        replace HB := Lib.hid (HB.out.trans (hb.mono HB.out.size))
        replace HG := Lib.hid (HG.out.below hb)
        replace HT := Lib.hid (HT.out.below hb)
        replace K3 := Lib.hid (K3.out.ext hb)
        replace K4 := Lib.hid (K4.out.ext hb)
        replace K7 := Lib.hid (K7.out.ext hb)
        replace K8 := Lib.hid (K8.out.ext hb)
        replace K9 := Lib.hid (K9.out.ext hb)
        replace K10 := Lib.hid (K10.out.ext hb)
        clear hb
        go_wp2
        go_ret
        exact ⟨rfl, HB.out⟩
      as_aux_lemma =>
      obtain ⟨n, rfl⟩ : ∃ n : Nat, x = (n : Int) := ⟨x.toNat, by omega⟩
      have hn : n ≤ C := by omega
      have h1n : ¬ C < n := by omega
      have hn9 : n ≤ 1024 := by omega
      have CT := Lib.hid (fun w h => take_yes f n C w HC.out hn bC h)
      have Hf := Lib.hid (fun k (hk : k < n) => el_facts f n k C HC.out hn hk)
      have Hlt := Lib.hid (fun i j (hj : j < C) (h : i < j) => el_lt f i j C HC.out hj h)
      have Hst := Lib.hid (fun k (hk : k < C) => back_step f n k C HC.out hk)
      have Hall := Lib.hid (back_all f n)
      have Hel : Hid (∀ k, k < n → el f k < 1024) := fun k hk => (el_get f k (by rw [HC.out]; omega)).2.2.2
      have Hlen : Hid (((eI f 1024).take n).length = n) := by show _ = _; rw [List.length_take, eI_len, HC.out]; omega
      have Hia : Hid (∀ k, k < n → ia ((eI f 1024).take n) k = (el f k : Int)) := fun k hk => by
        rw [← eI_ia f k (by rw [HC.out]; omega)]
        unfold ia
        rw [List.getD_eq_getElem?_getD, List.getD_eq_getElem?_getD, List.getElem?_take, if_pos hk]
      have hz := back_zero f n
      rw [hz] at CT
      generalize (eI f 1024).take n = LT at *
      have Hn := Lib.hid hn
      clear hz hn hx1 hx2 h0
      go_wp2_with (first
        | (show wpList _ _ _ (⟨some 46, _, _, _, _, _⟩ :: _) _ _; refine wpList_load_sc rfl TS (.tmp 7) rfl g7 f TS (by rfl) arr_TS K7.out ?_))
      refine (CT.out u10 HT.out).mono ?_
      rintro e u11 ⟨pa, rfl, hp, hb⟩
      have HP := Lib.hid hp
      clear hp
      replace HB := Lib.hid (HB.out.trans (hb.mono HB.out.size))
      replace HG := Lib.hid (HG.out.below hb)
      replace HT := Lib.hid (HT.out.below hb)
      replace K3 := Lib.hid (K3.out.ext hb)
      replace K4 := Lib.hid (K4.out.ext hb)
      replace K7 := Lib.hid (K7.out.ext hb)
      replace K8 := Lib.hid (K8.out.ext hb)
      replace K9 := Lib.hid (K9.out.ext hb)
      replace K10 := Lib.hid (K10.out.ext hb)
      clear hb
      have HPl : Hid (∀ ga oa, 0 < n → pa = some ⟨ga, oa, none⟩ → ga < u11.heap.size) := fun ga oa hn0 ea => by
        obtain ⟨gb, ob, eb, hc⟩ := HP.out (by rw [Hlen.out]; exact hn0)
        rw [eb] at ea
        cases ea
        exact block_lt_of_cell (hc 0 (by rw [Hlen.out]; exact hn0))
      have KL : Hid (g7 < u11.heap.size) := K7.out.lt
      have HBl : Hid (w.heap.size ≤ u11.heap.size) := HB.out.size
      go_wp2_with (first
        | (show wpList _ _ _ (⟨some 12, _, _, _, _, _⟩ :: _) _ _; refine wpList_alloc_arr rfl TS rfl arrz_TS ?_; intro g12 v1 hg1 hk1 hb1)
        | (show wpList _ _ _ (⟨none, _, _, _, _, _⟩ :: _) _ _; refine wpList_store_sc rfl TS (.tmp 12) (.tmp 51) rfl g12 (backR f n 0) _ TS (by rfl) (by rfl) arr_TS hk1 ?_; intro v2 hk2 ht2 _)
        | (show wpList _ _ _ (⟨some 63, _, _, _, _, _⟩ :: _) _ _; refine wpList_load_sc rfl TS (.tmp 7) rfl g7 f TS (by rfl) arr_TS ((K7.out.ext hb1).turn ht2 (fun (e : g7 = g12) => by have := K7.out.lt; omega)) ?_))
      have hb : Ext u11 v2 := hb1.trans (ht2.below hb1.size (fun i hi => by subst hi; exact hg1))
      replace HB := Lib.hid (HB.out.trans (hb.mono HB.out.size))
      replace HG := Lib.hid (HG.out.below hb)
      replace HT := Lib.hid (HT.out.below hb)
      replace K3 := Lib.hid (K3.out.ext hb)
      replace K4 := Lib.hid (K4.out.ext hb)
      replace K7 := Lib.hid (K7.out.ext hb)
      replace K8 := Lib.hid (K8.out.ext hb)
      replace K9 := Lib.hid (K9.out.ext hb)
      replace K10 := Lib.hid (K10.out.ext hb)
      replace HP := Lib.hid (HP.out.below hb (Nat.le_refl _))
      have K12 := Lib.hid hk2
      have HN12 : Hid (∀ ga oa, 0 < n → pa = some ⟨ga, oa, none⟩ → ¬ ga = g12) := fun ga oa hn0 ea => by
        have := HPl.out ga oa hn0 ea
        omega
      have N7 : Hid (g7 ≠ g12) := by show _ ≠ _; have := KL.out; omega
      have G12 : Hid (w.heap.size ≤ g12) := Nat.le_trans HBl.out hg1
      clear hb hk1 hk2 hg1 hb1 ht2
      refine (DC.out v2).mono ?_
      rintro e u12 ⟨rfl, hb⟩
      replace HB := Lib.hid (HB.out.trans (hb.mono HB.out.size))
      replace HG := Lib.hid (HG.out.below hb)
      replace HT := Lib.hid (HT.out.below hb)
      replace K3 := Lib.hid (K3.out.ext hb)
      replace K4 := Lib.hid (K4.out.ext hb)
      replace K7 := Lib.hid (K7.out.ext hb)
      replace K8 := Lib.hid (K8.out.ext hb)
      replace K9 := Lib.hid (K9.out.ext hb)
      replace K10 := Lib.hid (K10.out.ext hb)
      replace HP := Lib.hid (HP.out.below hb (Nat.le_refl _))
      replace K12 := Lib.hid (K12.out.ext hb)
      clear hb
      go_wp2_with fail
      go_loopw [14] (fun i wr => ∃ k : Nat, i = .int .i64 k ∧ k ≤ n ∧ Hid (Blk wr g7 TS (sc f) ∧ Blk wr g12 TS (sc (backR f n k))) ∧ Hid (PgS wr pa LT) ∧ Hid (Below w.heap.size w wr)) (fun i _ => n - (intOf i).toNat)
      case atStart => exact ⟨0, rfl, by omega, ⟨K7.out, K12.out⟩, HP, HB⟩
      case round =>
        obtain ⟨k, rfl, hk, HKr, HPr, HBr⟩ := hrel
        clear HB HG HT K3 K4 K7 K8 K9 K10 HP K12
        have K7 := Lib.hid HKr.out.1
        have K12 := Lib.hid HKr.out.2
        have HP := Lib.hid HPr.out
        have HB := Lib.hid HBr.out
        clear HKr HPr HBr
        by_cases hlt : k < n
        · skip
          obtain ⟨ga, oa, ea, _⟩ := HP.out (by rw [Hlen.out]; omega)
          obtain ⟨f1, f2, f3⟩ := Hf.out k hlt
          have hne12 := Lib.hid (HN12.out ga oa (by omega) ea)
          subst ea
          have hlt2 : (k : Int) < (n : Int) := by omega
          have k0 : (0 : Int) ≤ (k : Int) := by omega
          have kw : IntKind.i64.wrap (k : Int) = (k : Int) := by rw [IntKind.wrap_i64]; omega
          have hel9 := Hel.out k hlt
          have cx := fun w => has_any f (el f k : Int) w
          have cs := fun w => has_any (backR f n k) (el f k : Int) w
          have cbl := fun w => below_any (el f k : Int) w (by omega)
          have cwi := fun w => with_any (backR f n k) (el f k : Int) w
          rw [Hst.out k (by have := Hn.out; omega)] at cwi
          rw [f1] at cx
          rw [f2] at cs
          have hee := Hia.out k hlt
          have hlj := fun j (ej : k = j + 1) => Hlt.out j k (by have := Hn.out; omega) (by omega)
          obtain ⟨E, hE⟩ : ∃ E : Int, (el f k : Int) = E := ⟨_, rfl⟩
          have HE2 := Lib.hid hE
          rw [hE] at cx cs cbl cwi hee f3
          obtain ⟨BL, hBL⟩ : ∃ F : Nat → Bool, belowR E = F := ⟨_, rfl⟩
          rw [hBL] at cbl f3
          have cbo := fun w => both_any f BL w
          obtain ⟨BO, hBO⟩ : ∃ F : Nat → Bool, (fun m => f m && BL m) = F := ⟨_, rfl⟩
          rw [hBO] at cbo f3
          have cco := fun w => count_any BO w
          rw [f3] at cco
          have Cx := Lib.hid cx
          have Cs := Lib.hid cs
          have Cbl := Lib.hid cbl
          have Cwi := Lib.hid cwi
          have Cbo := Lib.hid cbo
          have Cco := Lib.hid cco
          have HE := Lib.hid hee
          have Hlj := Lib.hid hlj
          clear cx cs cbl cwi cbo cco f1 f2 f3 hee hE hBL hBO hlj hel9
          obtain ⟨BK, hBK⟩ : ∃ F : Nat → Bool, backR f n k = F := ⟨_, rfl⟩
          rw [hBK] at Cs Cwi K12
          obtain ⟨BK2, hBK2⟩ : ∃ F : Nat → Bool, backR f n (k + 1) = F := ⟨_, rfl⟩
          rw [hBK2] at Cwi
          have HBK2 := Lib.hid hBK2
          clear hBK hBK2
          go_wp2_with fail
          refine wp_region_gr [(0, true), (1, true), (2, true), (3, true), (4, true), (5, false), (6, true), (7, true), (8, true), (9, true), (10, true), (11, true), (12, true), (13, false), (14, true), (15, true), (16, true), (17, true), (18, true), (19, true), (20, true), (21, true), (22, true), (23, true), (24, true), (25, true), (26, true), (27, true), (28, true), (29, true), (30, true), (31, true), (32, true), (33, true), (34, true), (35, true), (36, true), (40, true), (37, false), (38, false), (39, false), (41, true), (42, true)] (by kernel_rfl) (by kernel_rfl) (by kernel_rfl) (by kernel_rfl) (fun _ _ _ _ _ h => h) ?_
          have hb : Ext wr wr.drew := Ext.drew _
          replace K7 := Lib.hid (K7.out.ext hb)
          replace K12 := Lib.hid (K12.out.ext hb)
          replace HP := Lib.hid (HP.out.below hb (Nat.le_refl _))
          replace HB := Lib.hid (HB.out.trans (hb.mono HB.out.size))
          clear hb
          generalize wr.drew = u13 at *
          have hce : ∀ w', Ext u13 w' → w'.cell? ⟨ga, oa + k, none⟩ = some (.int .i64 E) := fun w' he => by
            obtain ⟨gb, ob, eb, hc⟩ := HP.out (by rw [Hlen.out]; omega)
            cases eb
            have := hc k (by rw [Hlen.out]; exact hlt)
            rw [HE.out] at this
            exact (he.cell (p := ⟨ga, oa + k, none⟩) (block_lt_of_cell this)).trans this
          refine wpGr_read (o := ⟨_, _, _, _, _, _⟩) (v := .agg (sc f)) rfl (by rfl) (fun w' hw' => rd_load_sc TS (.tmp 7) rfl g7 f TS (by rfl) arr_TS (K7.out.ext hw')) ?_
          simp only [Act.put, List.setIfInBounds_toArray, List.set_cons_zero, List.set_cons_succ]
          iterate 4 (refine wpGr_read (o := ⟨_, _, _, _, _, _⟩) (v := ?_) rfl (by rfl) ?_ ?_; rotate_left; (intro w' hw'; go_simp; with_reducible rfl); simp only [Act.put, List.setIfInBounds_toArray, List.set_cons_zero, List.set_cons_succ])
          clear hce
          refine wpGr_call (o := ⟨_, _, _, _, _, _⟩) rfl (by rfl) (fun K hK => ?_)
          go_simp
          refine (Cx.out u13).mono ?_
          rintro e u14 ⟨rfl, hb⟩
          refine hK _ _ hb ?_
          clear hK K
          replace K7 := Lib.hid (K7.out.ext hb)
          replace K12 := Lib.hid (K12.out.ext hb)
          replace HP := Lib.hid (HP.out.below hb (Nat.le_refl _))
          replace HB := Lib.hid (HB.out.trans (hb.mono HB.out.size))
          clear hb
          have hce : ∀ w', Ext u14 w' → w'.cell? ⟨ga, oa + k, none⟩ = some (.int .i64 E) := fun w' he => by
            obtain ⟨gb, ob, eb, hc⟩ := HP.out (by rw [Hlen.out]; omega)
            cases eb
            have := hc k (by rw [Hlen.out]; exact hlt)
            rw [HE.out] at this
            exact (he.cell (p := ⟨ga, oa + k, none⟩) (block_lt_of_cell this)).trans this
          iterate 2 (refine wpGr_read (o := ⟨_, _, _, _, _, _⟩) (v := ?_) rfl (by rfl) ?_ ?_; rotate_left; (intro w' hw'; go_simp; with_reducible rfl); simp only [Act.put, List.setIfInBounds_toArray, List.set_cons_zero, List.set_cons_succ])
          refine wpGr_read (o := ⟨_, _, _, _, _, _⟩) (v := .agg (sc BK)) rfl (by rfl) (fun w' hw' => rd_load_sc TS (.tmp 12) rfl g12 BK TS (by rfl) arr_TS (K12.out.ext hw')) ?_
          simp only [Act.put, List.setIfInBounds_toArray, List.set_cons_zero, List.set_cons_succ]
          iterate 4 (refine wpGr_read (o := ⟨_, _, _, _, _, _⟩) (v := ?_) rfl (by rfl) ?_ ?_; rotate_left; (intro w' hw'; go_simp; with_reducible rfl); simp only [Act.put, List.setIfInBounds_toArray, List.set_cons_zero, List.set_cons_succ])
          clear hce
          refine wpGr_call (o := ⟨_, _, _, _, _, _⟩) rfl (by rfl) (fun K hK => ?_)
          go_simp
          refine (Cs.out u14).mono ?_
          rintro e u15 ⟨rfl, hb⟩
          refine hK _ _ hb ?_
          clear hK K
          replace K7 := Lib.hid (K7.out.ext hb)
          replace K12 := Lib.hid (K12.out.ext hb)
          replace HP := Lib.hid (HP.out.below hb (Nat.le_refl _))
          replace HB := Lib.hid (HB.out.trans (hb.mono HB.out.size))
          clear hb
          have hce : ∀ w', Ext u15 w' → w'.cell? ⟨ga, oa + k, none⟩ = some (.int .i64 E) := fun w' he => by
            obtain ⟨gb, ob, eb, hc⟩ := HP.out (by rw [Hlen.out]; omega)
            cases eb
            have := hc k (by rw [Hlen.out]; exact hlt)
            rw [HE.out] at this
            exact (he.cell (p := ⟨ga, oa + k, none⟩) (block_lt_of_cell this)).trans this
          have hcp : ∀ j, k = j + 1 → ∀ w', Ext u15 w' → w'.cell? ⟨ga, oa + j, none⟩ = some (.int .i64 (el f j : Int)) := fun j ej w' he => by
            obtain ⟨gb, ob, eb, hc⟩ := HP.out (by rw [Hlen.out]; omega)
            cases eb
            have := hc j (by rw [Hlen.out]; omega)
            rw [Hia.out j (by omega)] at this
            exact (he.cell (p := ⟨ga, oa + j, none⟩) (block_lt_of_cell this)).trans this
          iterate 3 (refine wpGr_read (o := ⟨_, _, _, _, _, _⟩) (v := ?_) rfl (by rfl) ?_ ?_; rotate_left; (intro w' hw'; go_simp; with_reducible rfl); simp only [Act.put, List.setIfInBounds_toArray, List.set_cons_zero, List.set_cons_succ])
          obtain ⟨D, hD1, hD2⟩ : ∃ D : Bool, decide (0 < k) = D ∧ (D = true → ∃ j, k = j + 1) := ⟨_, rfl, fun h => by have := of_decide_eq_true h; exact ⟨k - 1, by omega⟩⟩
          have hD3 : decide ((0 : Int) < (k : Int)) = D := by rw [← hD1, Bool.eq_iff_iff, decide_eq_true_iff, decide_eq_true_iff]; omega
          cases D with
          | false =>
            clear hcp hD2
            iterate 2 (refine wpGr_read (o := ⟨_, _, _, _, _, _⟩) (v := ?_) rfl (by rfl) ?_ ?_; rotate_left; (intro w' hw'; go_simp; with_reducible rfl); simp only [Act.put, List.setIfInBounds_toArray, List.set_cons_zero, List.set_cons_succ])
            iterate 10 (refine wpGr_skip (o := ⟨_, _, _, _, _, _⟩) rfl (by rfl) ?_; simp only [Act.put, List.setIfInBounds_toArray, List.set_cons_zero, List.set_cons_succ])
            iterate 1 (refine wpGr_read (o := ⟨_, _, _, _, _, _⟩) (v := ?_) rfl (by rfl) ?_ ?_; rotate_left; (intro w' hw'; go_simp; with_reducible rfl); simp only [Act.put, List.setIfInBounds_toArray, List.set_cons_zero, List.set_cons_succ])
            iterate 2 (refine wpGr_read (o := ⟨_, _, _, _, _, _⟩) (v := ?_) rfl (by rfl) ?_ ?_; rotate_left; (intro w' hw'; go_simp; with_reducible rfl); simp only [Act.put, List.setIfInBounds_toArray, List.set_cons_zero, List.set_cons_succ])
            refine wpGr_read (o := ⟨_, _, _, _, _, _⟩) (v := .agg (sc f)) rfl (by rfl) (fun w' hw' => rd_load_sc TS (.tmp 7) rfl g7 f TS (by rfl) arr_TS (K7.out.ext hw')) ?_
            simp only [Act.put, List.setIfInBounds_toArray, List.set_cons_zero, List.set_cons_succ]
            iterate 5 (refine wpGr_read (o := ⟨_, _, _, _, _, _⟩) (v := ?_) rfl (by rfl) ?_ ?_; rotate_left; (intro w' hw'; go_simp; with_reducible rfl); simp only [Act.put, List.setIfInBounds_toArray, List.set_cons_zero, List.set_cons_succ])
            clear hce
            refine wpGr_call (o := ⟨_, _, _, _, _, _⟩) rfl (by rfl) (fun K hK => ?_)
            go_simp
            refine (Cbl.out u15).mono ?_
            rintro e u16 ⟨rfl, hb⟩
            refine hK _ _ hb ?_
            clear hK K
            replace K7 := Lib.hid (K7.out.ext hb)
            replace K12 := Lib.hid (K12.out.ext hb)
            replace HP := Lib.hid (HP.out.below hb (Nat.le_refl _))
            replace HB := Lib.hid (HB.out.trans (hb.mono HB.out.size))
            clear hb
            refine wpGr_call (o := ⟨_, _, _, _, _, _⟩) rfl (by rfl) (fun K hK => ?_)
            go_simp
            refine (Cbo.out u16).mono ?_
            rintro e u17 ⟨rfl, hb⟩
            refine hK _ _ hb ?_
            clear hK K
            replace K7 := Lib.hid (K7.out.ext hb)
            replace K12 := Lib.hid (K12.out.ext hb)
            replace HP := Lib.hid (HP.out.below hb (Nat.le_refl _))
            replace HB := Lib.hid (HB.out.trans (hb.mono HB.out.size))
            clear hb
            refine wpGr_call (o := ⟨_, _, _, _, _, _⟩) rfl (by rfl) (fun K hK => ?_)
            go_simp
            refine (Cco.out u17).mono ?_
            rintro e u18 ⟨rfl, hb⟩
            refine hK _ _ hb ?_
            clear hK K
            replace K7 := Lib.hid (K7.out.ext hb)
            replace K12 := Lib.hid (K12.out.ext hb)
            replace HP := Lib.hid (HP.out.below hb (Nat.le_refl _))
            replace HB := Lib.hid (HB.out.trans (hb.mono HB.out.size))
            clear hb
            iterate 2 (refine wpGr_read (o := ⟨_, _, _, _, _, _⟩) (v := ?_) rfl (by rfl) ?_ ?_; rotate_left; (intro w' hw'; go_simp; with_reducible rfl); simp only [Act.put, List.setIfInBounds_toArray, List.set_cons_zero, List.set_cons_succ])
            refine wpGr_done ?_
            go_wp2_with fail
            refine wp_region_gt (F := fun i => i = g12) [(1, true), (2, true), (3, true), (4, true), (0, false), (5, false), (6, false)] (by kernel_rfl) (by kernel_rfl) (by kernel_rfl) (by kernel_rfl) (fun _ _ _ _ _ h => h) ?_
            have hb : Ext u18 u18.drew := Ext.drew _
            replace K7 := Lib.hid (K7.out.ext hb)
            replace K12 := Lib.hid (K12.out.ext hb)
            replace HP := Lib.hid (HP.out.below hb (Nat.le_refl _))
            replace HB := Lib.hid (HB.out.trans (hb.mono HB.out.size))
            clear hb
            generalize u18.drew = u19 at *
            have hce : ∀ w', Turn (fun i => i = g12) u19 w' → w'.cell? ⟨ga, oa + k, none⟩ = some (.int .i64 E) := fun w' he => by
              obtain ⟨gb, ob, eb, hc⟩ := HP.out (by rw [Hlen.out]; omega)
              cases eb
              have := hc k (by rw [Hlen.out]; exact hlt)
              rw [HE.out] at this
              exact (he.cell (p := ⟨ga, oa + k, none⟩) (block_lt_of_cell this) hne12.out).trans this
            iterate 4 (refine wpGt_read (o := ⟨_, _, _, _, _, _⟩) (v := ?_) rfl (by rfl) ?_ ?_; rotate_left; (intro w' hw'; go_simp; with_reducible rfl); simp only [Act.put, List.setIfInBounds_toArray, List.set_cons_zero, List.set_cons_succ])
            clear hce
            refine wpGt_call (o := ⟨_, _, _, _, _, _⟩) rfl (by rfl) (fun K hK => ?_)
            refine wp_load_sc TS (.tmp 12) rfl g12 BK TS (by rfl) arr_TS K12.out ?_
            refine hK _ _ (Turn.refl _ _) ?_
            clear hK K
            simp only [Act.put, List.setIfInBounds_toArray, List.set_cons_zero, List.set_cons_succ]
            refine wpGt_call (o := ⟨_, _, _, _, _, _⟩) rfl (by rfl) (fun K hK => ?_)
            go_simp
            refine (Cwi.out u19).mono ?_
            rintro e u20 ⟨rfl, hb⟩
            refine hK _ _ (Turn.ofBelow hb) ?_
            clear hK K
            replace K7 := Lib.hid (K7.out.ext hb)
            replace K12 := Lib.hid (K12.out.ext hb)
            replace HP := Lib.hid (HP.out.below hb (Nat.le_refl _))
            replace HB := Lib.hid (HB.out.trans (hb.mono HB.out.size))
            clear hb
            refine wpGt_call (o := ⟨_, _, _, _, _, _⟩) rfl (by rfl) (fun K hK => ?_)
            refine wp_store_sc TS (.tmp 12) (.tmp 140) rfl g12 BK2 _ TS (by rfl) (by rfl) arr_TS K12.out ?_
            intro u21 hk6 ht6 _
            refine hK _ _ ht6 ?_
            clear hK K
            simp only [Act.put]
            refine wpGt_done ?_
            have K7b : Hid (Blk u21 g7 TS (sc f)) := K7.out.turn ht6 N7.out
            have K12b : Hid (Blk u21 g12 TS (sc (backR f n (k + 1)))) := by rw [HBK2.out]; exact hk6
            have HPb : Hid (PgS u21 (some ⟨ga, oa, none⟩) LT) := HP.out.turn ht6 (fun g' o' e => by cases e; exact hne12.out)
            have HBb : Hid (Below w.heap.size w u21) := HB.out.trans (ht6.below HB.out.size (fun i hi => by subst hi; exact G12.out))
            clear K7 K12 HP HB hk6 ht6
            go_wp2
            go_roundw
            case rel => exact ⟨k + 1, by go_num, by omega, ⟨K7b.out, K12b.out⟩, HPb, HBb⟩
            case measure => simp [intOf]; omega
          | true =>
            obtain ⟨j, ej⟩ := hD2 rfl
            have hcj := hcp j ej
            have hl2 := Hlj.out j ej
            have hEk := HE2.out
            obtain ⟨Ej, hEj⟩ : ∃ Ej : Int, (el f j : Int) = Ej := ⟨_, rfl⟩
            have hlE : Ej < E := by rw [← hEj, ← hEk]; omega
            rw [hEj] at hcj
            have j0 : (0 : Int) ≤ (j : Int) := by omega
            have jn : (j : Int) < (n : Int) := by omega
            have jw : IntKind.i64.wrap ((k : Int) - 1) = (j : Int) := by rw [IntKind.wrap_i64]; omega
            have jw2 : IntKind.i64.wrap (j : Int) = (j : Int) := by rw [IntKind.wrap_i64]; omega
            have dge : decide (E ≤ Ej) = false := decide_eq_false (by omega)
            clear hl2 hEk hEj hlE hcp hD2 ej
            iterate 13 (refine wpGr_read (o := ⟨_, _, _, _, _, _⟩) (v := ?_) rfl (by rfl) ?_ ?_; rotate_left; (intro w' hw'; go_simp; with_reducible rfl); simp only [Act.put, List.setIfInBounds_toArray, List.set_cons_zero, List.set_cons_succ])
            iterate 2 (refine wpGr_read (o := ⟨_, _, _, _, _, _⟩) (v := ?_) rfl (by rfl) ?_ ?_; rotate_left; (intro w' hw'; go_simp; with_reducible rfl); simp only [Act.put, List.setIfInBounds_toArray, List.set_cons_zero, List.set_cons_succ])
            refine wpGr_read (o := ⟨_, _, _, _, _, _⟩) (v := .agg (sc f)) rfl (by rfl) (fun w' hw' => rd_load_sc TS (.tmp 7) rfl g7 f TS (by rfl) arr_TS (K7.out.ext hw')) ?_
            simp only [Act.put, List.setIfInBounds_toArray, List.set_cons_zero, List.set_cons_succ]
            iterate 5 (refine wpGr_read (o := ⟨_, _, _, _, _, _⟩) (v := ?_) rfl (by rfl) ?_ ?_; rotate_left; (intro w' hw'; go_simp; with_reducible rfl); simp only [Act.put, List.setIfInBounds_toArray, List.set_cons_zero, List.set_cons_succ])
            clear hce hcj
            refine wpGr_call (o := ⟨_, _, _, _, _, _⟩) rfl (by rfl) (fun K hK => ?_)
            go_simp
            refine (Cbl.out u15).mono ?_
            rintro e u16 ⟨rfl, hb⟩
            refine hK _ _ hb ?_
            clear hK K
            replace K7 := Lib.hid (K7.out.ext hb)
            replace K12 := Lib.hid (K12.out.ext hb)
            replace HP := Lib.hid (HP.out.below hb (Nat.le_refl _))
            replace HB := Lib.hid (HB.out.trans (hb.mono HB.out.size))
            clear hb
            refine wpGr_call (o := ⟨_, _, _, _, _, _⟩) rfl (by rfl) (fun K hK => ?_)
            go_simp
            refine (Cbo.out u16).mono ?_
            rintro e u17 ⟨rfl, hb⟩
            refine hK _ _ hb ?_
            clear hK K
            replace K7 := Lib.hid (K7.out.ext hb)
            replace K12 := Lib.hid (K12.out.ext hb)
            replace HP := Lib.hid (HP.out.below hb (Nat.le_refl _))
            replace HB := Lib.hid (HB.out.trans (hb.mono HB.out.size))
            clear hb
            refine wpGr_call (o := ⟨_, _, _, _, _, _⟩) rfl (by rfl) (fun K hK => ?_)
            go_simp
            refine (Cco.out u17).mono ?_
            rintro e u18 ⟨rfl, hb⟩
            refine hK _ _ hb ?_
            clear hK K
            replace K7 := Lib.hid (K7.out.ext hb)
            replace K12 := Lib.hid (K12.out.ext hb)
            replace HP := Lib.hid (HP.out.below hb (Nat.le_refl _))
            replace HB := Lib.hid (HB.out.trans (hb.mono HB.out.size))
            clear hb
            iterate 2 (refine wpGr_read (o := ⟨_, _, _, _, _, _⟩) (v := ?_) rfl (by rfl) ?_ ?_; rotate_left; (intro w' hw'; go_simp; with_reducible rfl); simp only [Act.put, List.setIfInBounds_toArray, List.set_cons_zero, List.set_cons_succ])
            refine wpGr_done ?_
            go_wp2_with fail
            refine wp_region_gt (F := fun i => i = g12) [(1, true), (2, true), (3, true), (4, true), (0, false), (5, false), (6, false)] (by kernel_rfl) (by kernel_rfl) (by kernel_rfl) (by kernel_rfl) (fun _ _ _ _ _ h => h) ?_
            have hb : Ext u18 u18.drew := Ext.drew _
            replace K7 := Lib.hid (K7.out.ext hb)
            replace K12 := Lib.hid (K12.out.ext hb)
            replace HP := Lib.hid (HP.out.below hb (Nat.le_refl _))
            replace HB := Lib.hid (HB.out.trans (hb.mono HB.out.size))
            clear hb
            generalize u18.drew = u19 at *
            have hce : ∀ w', Turn (fun i => i = g12) u19 w' → w'.cell? ⟨ga, oa + k, none⟩ = some (.int .i64 E) := fun w' he => by
              obtain ⟨gb, ob, eb, hc⟩ := HP.out (by rw [Hlen.out]; omega)
              cases eb
              have := hc k (by rw [Hlen.out]; exact hlt)
              rw [HE.out] at this
              exact (he.cell (p := ⟨ga, oa + k, none⟩) (block_lt_of_cell this) hne12.out).trans this
            iterate 4 (refine wpGt_read (o := ⟨_, _, _, _, _, _⟩) (v := ?_) rfl (by rfl) ?_ ?_; rotate_left; (intro w' hw'; go_simp; with_reducible rfl); simp only [Act.put, List.setIfInBounds_toArray, List.set_cons_zero, List.set_cons_succ])
            clear hce
            refine wpGt_call (o := ⟨_, _, _, _, _, _⟩) rfl (by rfl) (fun K hK => ?_)
            refine wp_load_sc TS (.tmp 12) rfl g12 BK TS (by rfl) arr_TS K12.out ?_
            refine hK _ _ (Turn.refl _ _) ?_
            clear hK K
            simp only [Act.put, List.setIfInBounds_toArray, List.set_cons_zero, List.set_cons_succ]
            refine wpGt_call (o := ⟨_, _, _, _, _, _⟩) rfl (by rfl) (fun K hK => ?_)
            go_simp
            refine (Cwi.out u19).mono ?_
            rintro e u20 ⟨rfl, hb⟩
            refine hK _ _ (Turn.ofBelow hb) ?_
            clear hK K
            replace K7 := Lib.hid (K7.out.ext hb)
            replace K12 := Lib.hid (K12.out.ext hb)
            replace HP := Lib.hid (HP.out.below hb (Nat.le_refl _))
            replace HB := Lib.hid (HB.out.trans (hb.mono HB.out.size))
            clear hb
            refine wpGt_call (o := ⟨_, _, _, _, _, _⟩) rfl (by rfl) (fun K hK => ?_)
            refine wp_store_sc TS (.tmp 12) (.tmp 140) rfl g12 BK2 _ TS (by rfl) (by rfl) arr_TS K12.out ?_
            intro u21 hk6 ht6 _
            refine hK _ _ ht6 ?_
            clear hK K
            simp only [Act.put]
            refine wpGt_done ?_
            have K7b : Hid (Blk u21 g7 TS (sc f)) := K7.out.turn ht6 N7.out
            have K12b : Hid (Blk u21 g12 TS (sc (backR f n (k + 1)))) := by rw [HBK2.out]; exact hk6
            have HPb : Hid (PgS u21 (some ⟨ga, oa, none⟩) LT) := HP.out.turn ht6 (fun g' o' e => by cases e; exact hne12.out)
            have HBb : Hid (Below w.heap.size w u21) := HB.out.trans (ht6.below HB.out.size (fun i hi => by subst hi; exact G12.out))
            clear K7 K12 HP HB hk6 ht6
            go_wp2
            go_roundw
            case rel => exact ⟨k + 1, by go_num, by omega, ⟨K7b.out, K12b.out⟩, HPb, HBb⟩
            case measure => simp [intOf]; omega
        · skip
          obtain rfl : k = n := by omega
          have hlt2 : ¬ (k : Int) < (k : Int) := by omega
          have hk12 := K12.out
          rw [Hall.out] at hk12
          have K12b := Lib.hid hk12
          clear hk12 K12
          go_wp2_with (first
            | (show wpList _ _ _ (⟨some 141, _, _, _, _, _⟩ :: _) _ _; refine wpList_load_sc rfl TS (.tmp 12) rfl g12 f TS (by rfl) arr_TS K12b.out ?_)
            | (show wpList _ _ _ (⟨some 142, _, _, _, _, _⟩ :: _) _ _; refine wpList_load_sc rfl TS (.tmp 7) rfl g7 f TS (by rfl) arr_TS K7.out ?_)
            | (show wpList _ _ _ (⟨some 143, _, _, _, _, _⟩ :: _) _ _; refine wpList_eql_sc rfl (.tmp 141) (.tmp 142) TS rfl f f (by rfl) (by rfl) rfl ?_))
          refine (zsure_any wr (HGw.out.below HB.out) (HTw.out.below HB.out)).mono ?_
          rintro e u9 ⟨rfl, hb⟩
          have HB9 := Lib.hid (HB.out.trans (hb.mono HB.out.size))
          clear hb
          go_wp2
          go_ret
          exact ⟨rfl, HB9.out⟩
end Go.Proofs.YtkokcmjpobfkkaaDoor
