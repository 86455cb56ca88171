/-
  BitsetParts: the law's walk (mkparts17.py).
-/
import Derived.Test.YtkokcmjpobfkkaaDoorSure17
import Derived.Test.YtkokcmjpobfkkaaDoorBit3
import Derived.Deep.DeepCutAuto
namespace Go.Proofs.YtkokcmjpobfkkaaDoor
open Go Go.RowKit

set_option maxRecDepth 100000 in
set_option maxHeartbeats 4000000 in
theorem parts_any (f g h : Nat → Bool) (w : World) (hg : Hg w) (hT : TabIn w) : Calls Tryd.prog 5 #[.agg (sc f), .agg (sc g), .agg (sc h)] w fun e w' => e = .returned (.bool true) ∧ Below w.heap.size w w' := by
  have HG := Lib.hid hg
  have HT := Lib.hid hT
  have HB := Lib.hid (Below.refl w.heap.size w)
  clear hg hT
  obtain ⟨A1, hA1⟩ : ∃ F : Nat → Bool, (fun m => g m || h m) = F := ⟨_, rfl⟩
  have pA1 : ∀ m, A1 m = (g m || h m) := fun m => by rw [← hA1]
  have cA1 := fun w => either_any g h w
  rw [hA1] at cA1
  have CA1 := Lib.hid cA1
  clear cA1
  obtain ⟨A2, hA2⟩ : ∃ F : Nat → Bool, (fun m => f m && !A1 m) = F := ⟨_, rfl⟩
  have pA2 : ∀ m, A2 m = (f m && !A1 m) := fun m => by rw [← hA2]
  have cA2 := fun w => less_any f A1 w
  rw [hA2] at cA2
  have CA2 := Lib.hid cA2
  clear cA2
  obtain ⟨A3, hA3⟩ : ∃ F : Nat → Bool, (fun m => f m && !g m) = F := ⟨_, rfl⟩
  have pA3 : ∀ m, A3 m = (f m && !g m) := fun m => by rw [← hA3]
  have cA3 := fun w => less_any f g w
  rw [hA3] at cA3
  have CA3 := Lib.hid cA3
  clear cA3
  obtain ⟨A4, hA4⟩ : ∃ F : Nat → Bool, (fun m => f m && !h m) = F := ⟨_, rfl⟩
  have pA4 : ∀ m, A4 m = (f m && !h m) := fun m => by rw [← hA4]
  have cA4 := fun w => less_any f h w
  rw [hA4] at cA4
  have CA4 := Lib.hid cA4
  clear cA4
  obtain ⟨A5, hA5⟩ : ∃ F : Nat → Bool, (fun m => A3 m && A4 m) = F := ⟨_, rfl⟩
  have pA5 : ∀ m, A5 m = (A3 m && A4 m) := fun m => by rw [← hA5]
  have cA5 := fun w => both_any A3 A4 w
  rw [hA5] at cA5
  have CA5 := Lib.hid cA5
  clear cA5
  obtain ⟨A6, hA6⟩ : ∃ F : Nat → Bool, (fun m => f m && A1 m) = F := ⟨_, rfl⟩
  have pA6 : ∀ m, A6 m = (f m && A1 m) := fun m => by rw [← hA6]
  have cA6 := fun w => both_any f A1 w
  rw [hA6] at cA6
  have CA6 := Lib.hid cA6
  clear cA6
  obtain ⟨A7, hA7⟩ : ∃ F : Nat → Bool, (fun m => f m && g m) = F := ⟨_, rfl⟩
  have pA7 : ∀ m, A7 m = (f m && g m) := fun m => by rw [← hA7]
  have cA7 := fun w => both_any f g w
  rw [hA7] at cA7
  have CA7 := Lib.hid cA7
  clear cA7
  obtain ⟨A8, hA8⟩ : ∃ F : Nat → Bool, (fun m => f m && h m) = F := ⟨_, rfl⟩
  have pA8 : ∀ m, A8 m = (f m && h m) := fun m => by rw [← hA8]
  have cA8 := fun w => both_any f h w
  rw [hA8] at cA8
  have CA8 := Lib.hid cA8
  clear cA8
  obtain ⟨A9, hA9⟩ : ∃ F : Nat → Bool, (fun m => A7 m || A8 m) = F := ⟨_, rfl⟩
  have pA9 : ∀ m, A9 m = (A7 m || A8 m) := fun m => by rw [← hA9]
  have cA9 := fun w => either_any A7 A8 w
  rw [hA9] at cA9
  have CA9 := Lib.hid cA9
  clear cA9
  obtain ⟨v, hv⟩ : ∃ v, wd f 15 = v := ⟨_, rfl⟩
  obtain ⟨n, hn⟩ : ∃ n, v % 1025 = n := ⟨_, rfl⟩
  have hn9 : n ≤ 1024 := by omega
  obtain ⟨B, hB⟩ : ∃ F : Nat → Bool, belowR (n : Int) = F := ⟨_, rfl⟩
  have pB : ∀ m, B m = decide (m < n) := fun m => by
    rw [← hB, belowR, Bool.eq_iff_iff, decide_eq_true_iff, decide_eq_true_iff]; omega
  have cB := fun w => below_any (n : Int) w (by omega)
  rw [hB] at cB
  have CB := Lib.hid cB
  clear hB cB
  obtain ⟨L, hL⟩ : ∃ F : Nat → Bool, (fun m => f m && B m) = F := ⟨_, rfl⟩
  have pL : ∀ m, L m = (f m && B m) := fun m => by rw [← hL]
  have cL := fun w => both_any f B w
  rw [hL] at cL
  have CL := Lib.hid cL
  clear cL
  obtain ⟨H, hH⟩ : ∃ F : Nat → Bool, (fun m => f m && !B m) = F := ⟨_, rfl⟩
  have pH : ∀ m, H m = (f m && !B m) := fun m => by rw [← hH]
  have cH := fun w => less_any f B w
  rw [hH] at cH
  have CH := Lib.hid cH
  clear cH
  obtain ⟨E, hE⟩ : ∃ F : Nat → Bool, (fun m => f m || g m) = F := ⟨_, rfl⟩
  have pE : ∀ m, E m = (f m || g m) := fun m => by rw [← hE]
  have cE := fun w => either_any f g w
  rw [hE] at cE
  have CE := Lib.hid cE
  clear cE
  obtain ⟨E2, hE2⟩ : ∃ F : Nat → Bool, (fun m => L m || H m) = F := ⟨_, rfl⟩
  have pE2 : ∀ m, E2 m = (L m || H m) := fun m => by rw [← hE2]
  have cE2 := fun w => either_any L H w
  rw [hE2] at cE2
  have CE2 := Lib.hid cE2
  clear cE2
  have S1 : Hid (sc A5 = sc A2) := sc_ext (fun m _ => by rw [pA5, pA2, pA3, pA4, pA1]; cases f m <;> cases g m <;> cases h m <;> rfl)
  have S2 : Hid (sc A9 = sc A6) := sc_ext (fun m _ => by rw [pA9, pA6, pA7, pA8, pA1]; cases f m <;> cases g m <;> cases h m <;> rfl)
  have S3 : Hid (sc f = sc E2) := sc_ext (fun m _ => by rw [pE2, pL, pH]; cases f m <;> cases B m <;> rfl)
  have n1 := cnt_and_or f g 1024
  have n2 := cnt_part f B 1024
  have n3 : cnt B 1024 = n := by
    rw [cnt_ext (fun m _ => pB m), cnt_below]; omega
  rw [hA7, hE] at n1
  rw [hL, hH] at n2
  obtain ⟨c7, hc7⟩ : ∃ c, cnt A7 1024 = c := ⟨_, rfl⟩
  have bc7 := cnt_le A7 1024
  have dc7 := fun w => count_any A7 w
  rw [hc7] at bc7 dc7
  have Dc7 := Lib.hid dc7
  clear dc7
  obtain ⟨cE, hcE⟩ : ∃ c, cnt E 1024 = c := ⟨_, rfl⟩
  have bcE := cnt_le E 1024
  have dcE := fun w => count_any E w
  rw [hcE] at bcE dcE
  have DcE := Lib.hid dcE
  clear dcE
  obtain ⟨cf, hcf⟩ : ∃ c, cnt f 1024 = c := ⟨_, rfl⟩
  have bcf := cnt_le f 1024
  have dcf := fun w => count_any f w
  rw [hcf] at bcf dcf
  have Dcf := Lib.hid dcf
  clear dcf
  obtain ⟨cg, hcg⟩ : ∃ c, cnt g 1024 = c := ⟨_, rfl⟩
  have bcg := cnt_le g 1024
  have dcg := fun w => count_any g w
  rw [hcg] at bcg dcg
  have Dcg := Lib.hid dcg
  clear dcg
  obtain ⟨cL, hcL⟩ : ∃ c, cnt L 1024 = c := ⟨_, rfl⟩
  have bcL := cnt_le L 1024
  have dcL := fun w => count_any L w
  rw [hcL] at bcL dcL
  have DcL := Lib.hid dcL
  clear dcL
  obtain ⟨cH, hcH⟩ : ∃ c, cnt H 1024 = c := ⟨_, rfl⟩
  have bcH := cnt_le H 1024
  have dcH := fun w => count_any H w
  rw [hcH] at bcH dcH
  have DcH := Lib.hid dcH
  clear dcH
  obtain ⟨cN, hcN⟩ : ∃ c, cnt B 1024 = c := ⟨_, rfl⟩
  have bcN := cnt_le B 1024
  have dcN := fun w => count_any B w
  rw [hcN] at bcN dcN
  have DcN := Lib.hid dcN
  clear dcN
  rw [hc7, hcE, hcf, hcg] at n1
  rw [hcL, hcH, hcf] at n2
  rw [hcN] at n3
  subst n3
  clear hc7 hcE hcf hcg hcL hcH hcN
  clear hA1 pA1
  clear hA2 pA2
  clear hA3 pA3
  clear hA4 pA4
  clear hA5 pA5
  clear hA6 pA6
  clear hA7 pA7
  clear hA8 pA8
  clear hA9 pA9
  clear hL pL
  clear hH pH
  clear hE pE
  clear hE2 pE2
  clear pB
  have m1 : (v : Int).tmod 1025 = (cN : Int) := by rw [← hn]; rfl
  have m2 : (v : Int) % 1025 = (cN : Int) := by omega
  obtain ⟨s, hs⟩ : ∃ s : Nat, c7 + cE = s := ⟨_, rfl⟩
  have e1 : (c7 : Int) + (cE : Int) = (s : Int) := by omega
  have e2 : (cf : Int) + (cg : Int) = (s : Int) := by omega
  have e3 : (cL : Int) + (cH : Int) = (cf : Int) := by omega
  have w1 : IntKind.i64.wrap (s : Int) = (s : Int) := by rw [IntKind.wrap_i64]; omega
  have w2 : IntKind.i64.wrap (cf : Int) = (cf : Int) := by rw [IntKind.wrap_i64]; omega
  have w3 : IntKind.i64.wrap (cN : Int) = (cN : Int) := by rw [IntKind.wrap_i64]; omega
  have HV := Lib.hid hv
  clear hn n1 n2 hs hv
  go_enter Tryd.func5, Tryd.ntmps5
  go_wp2_with (first
    | (show wpList _ _ _ (⟨some 3, _, _, _, _, _⟩ :: _) _ _; refine wpList_box_arr rfl TW (.tmp 0) rfl (sc f) (by rfl) ?_; intro g3 v1 hg1 hk1 hb1)
    | (show wpList _ _ _ (⟨some 4, _, _, _, _, _⟩ :: _) _ _; refine wpList_box_arr rfl TW (.tmp 1) rfl (sc g) (by rfl) ?_; intro g4 v2 hg2 hk2 hb2)
    | (show wpList _ _ _ (⟨some 5, _, _, _, _, _⟩ :: _) _ _; refine wpList_box_arr rfl TW (.tmp 2) rfl (sc h) (by rfl) ?_; intro g5 v3 hg3 hk3 hb3))
  have hb : Ext w v3 := (hb1.trans (hb2.mono hb1.size)).trans (hb3.mono (hb1.trans (hb2.mono hb1.size)).size)
  replace HB := Lib.hid (HB.out.trans (hb.mono HB.out.size))
  replace HG := Lib.hid (HG.out.below hb)
  replace HT := Lib.hid (HT.out.below hb)
  have K3 := Lib.hid ((hk1.ext hb2).ext hb3)
  have K4 := Lib.hid (hk2.ext hb3)
  have K5 := Lib.hid hk3
  clear hb hb1 hb2 hb3 hk1 hk2 hk3 hg1 hg2 hg3
  go_upto_region 1 with fail
  go_cut [7, 8, 9] (fun s7 s8 s9 wx => ∃ g7 g8 g9 : Nat, s7 = .pointer (some ⟨g7, 0, none⟩) ∧ s8 = .pointer (some ⟨g8, 0, none⟩) ∧ s9 = .pointer (some ⟨g9, 0, none⟩) ∧ Hid (Blk wx g7 TS (sc f) ∧ Blk wx g8 TS (sc g) ∧ Blk wx g9 TS (sc h)) ∧ Hid (Below v3.heap.size v3 wx))
  case first =>
    refine wp_region_gs (F := fun i => v3.heap.size ≤ i) (.rd 0 (.rd 1 (.rd 2 (.three 3 (.two 4 (.call 5 (.call 6 (.call 7 (.call 8 .done)))) 5 (.call 4 (.call 6 (.call 7 (.call 8 .done))))) 4 (.two 3 (.call 5 (.call 6 (.call 7 (.call 8 .done)))) 5 (.call 3 (.call 6 (.call 7 (.call 8 .done))))) 5 (.two 3 (.call 4 (.call 6 (.call 7 (.call 8 .done)))) 4 (.call 3 (.call 6 (.call 7 (.call 8 .done))))))))) (by kernel_rfl) (by kernel_rfl) (by kernel_rfl) (by kernel_rfl) (fun _ _ _ _ _ h => h) ?_
    have hb : Ext v3 v3.drew := Ext.drew _
    have HN : Hid (v3.drew.heap.size = v3.heap.size) := rfl
    have HD := Lib.hid hb
    replace HB := Lib.hid (HB.out.trans (hb.mono HB.out.size))
    replace HG := Lib.hid (HG.out.below hb)
    replace HT := Lib.hid (HT.out.below hb)
    replace K3 := Lib.hid (K3.out.ext hb)
    replace K4 := Lib.hid (K4.out.ext hb)
    replace K5 := Lib.hid (K5.out.ext hb)
    clear hb
    have HX : Hid (Turn (fun i => v3.heap.size ≤ i) v3.drew v3.drew) := Turn.refl _ _
    generalize v3.drew = u1 at *
    refine wpGs_read (o := ⟨_, _, _, _, _, _⟩) (v := .agg (sc f)) rfl (by rfl) (fun w' hw' => rd_load_sc TW (.tmp 3) rfl g3 f TW (by rfl) arr_TW (K3.out.turn hw' (fun (e : v3.heap.size ≤ g3) => Nat.not_le.2 (Nat.lt_of_lt_of_eq K3.out.lt HN.out) e))) ?_
    simp only [Act.put, List.setIfInBounds_toArray, List.set_cons_zero, List.set_cons_succ]
    refine wpGs_read (o := ⟨_, _, _, _, _, _⟩) (v := .agg (sc g)) rfl (by rfl) (fun w' hw' => rd_load_sc TW (.tmp 4) rfl g4 g TW (by rfl) arr_TW (K4.out.turn hw' (fun (e : v3.heap.size ≤ g4) => Nat.not_le.2 (Nat.lt_of_lt_of_eq K4.out.lt HN.out) e))) ?_
    simp only [Act.put, List.setIfInBounds_toArray, List.set_cons_zero, List.set_cons_succ]
    refine wpGs_read (o := ⟨_, _, _, _, _, _⟩) (v := .agg (sc h)) rfl (by rfl) (fun w' hw' => rd_load_sc TW (.tmp 5) rfl g5 h TW (by rfl) arr_TW (K5.out.turn hw' (fun (e : v3.heap.size ≤ g5) => Nat.not_le.2 (Nat.lt_of_lt_of_eq K5.out.lt HN.out) e))) ?_
    simp only [Act.put, List.setIfInBounds_toArray, List.set_cons_zero, List.set_cons_succ]
    refine ⟨?_, ?_, ?_⟩
    · skip
      refine stepS_call (o := ⟨_, _, _, _, _, _⟩) rfl (by rfl) (fun K hK => ?_)
      refine wp_alloc_arr TS rfl arrz_TS ?_
      intro g7 u2 hg hk hb
      refine hK _ _ (Turn.ofBelow hb) ?_
      clear hK K
      simp only [Act.put, List.setIfInBounds_toArray, List.set_cons_zero, List.set_cons_succ]
      have G7 : Hid (v3.heap.size ≤ g7) := Nat.le_trans (Nat.le_of_eq HN.out.symm) (Nat.le_trans HX.out.size hg)
      replace HX := Lib.hid (HX.out.trans (Turn.ofBelow hb))
      have K7 := Lib.hid hk
      clear hk hg hb
      refine ⟨?_, ?_⟩
      · skip
        refine stepS_call (o := ⟨_, _, _, _, _, _⟩) rfl (by rfl) (fun K hK => ?_)
        refine wp_alloc_arr TS rfl arrz_TS ?_
        intro g8 u3 hg hk hb
        refine hK _ _ (Turn.ofBelow hb) ?_
        clear hK K
        simp only [Act.put, List.setIfInBounds_toArray, List.set_cons_zero, List.set_cons_succ]
        have G8 : Hid (v3.heap.size ≤ g8) := Nat.le_trans (Nat.le_of_eq HN.out.symm) (Nat.le_trans HX.out.size hg)
        have N8_7 : Hid (g8 ≠ g7) := (Nat.ne_of_lt (Nat.lt_of_lt_of_le K7.out.lt hg)).symm
        replace HX := Lib.hid (HX.out.trans (Turn.ofBelow hb))
        replace K7 := Lib.hid (K7.out.ext hb)
        have K8 := Lib.hid hk
        clear hk hg hb
        refine stepS_call (o := ⟨_, _, _, _, _, _⟩) rfl (by rfl) (fun K hK => ?_)
        refine wp_alloc_arr TS rfl arrz_TS ?_
        intro g9 u4 hg hk hb
        refine hK _ _ (Turn.ofBelow hb) ?_
        clear hK K
        simp only [Act.put, List.setIfInBounds_toArray, List.set_cons_zero, List.set_cons_succ]
        have G9 : Hid (v3.heap.size ≤ g9) := Nat.le_trans (Nat.le_of_eq HN.out.symm) (Nat.le_trans HX.out.size hg)
        have N9_7 : Hid (g9 ≠ g7) := (Nat.ne_of_lt (Nat.lt_of_lt_of_le K7.out.lt hg)).symm
        have N9_8 : Hid (g9 ≠ g8) := (Nat.ne_of_lt (Nat.lt_of_lt_of_le K8.out.lt hg)).symm
        replace HX := Lib.hid (HX.out.trans (Turn.ofBelow hb))
        replace K7 := Lib.hid (K7.out.ext hb)
        replace K8 := Lib.hid (K8.out.ext hb)
        have K9 := Lib.hid hk
        clear hk hg hb
        refine stepS_call (o := ⟨_, _, _, _, _, _⟩) rfl (by rfl) (fun K hK => ?_)
        refine wp_store_sc TS (.tmp 7) (.tmp 13) rfl g7 f _ TS (by rfl) (by rfl) arr_TS K7.out ?_
        intro u5 hk ht _
        have hX : Turn (fun i => v3.heap.size ≤ i) u4 u5 := ht.mono (fun i hi _ => by subst hi; exact G7.out)
        refine hK _ _ hX ?_
        clear hK K
        simp only [Act.put]
        replace HX := Lib.hid (HX.out.trans hX)
        replace K7 := Lib.hid hk
        replace K8 := Lib.hid (K8.out.turn ht (fun e => N8_7.out e))
        replace K9 := Lib.hid (K9.out.turn ht (fun e => N9_7.out e))
        clear hk ht hX
        refine stepS_call (o := ⟨_, _, _, _, _, _⟩) rfl (by rfl) (fun K hK => ?_)
        refine wp_store_sc TS (.tmp 8) (.tmp 14) rfl g8 g _ TS (by rfl) (by rfl) arr_TS K8.out ?_
        intro u6 hk ht _
        have hX : Turn (fun i => v3.heap.size ≤ i) u5 u6 := ht.mono (fun i hi _ => by subst hi; exact G8.out)
        refine hK _ _ hX ?_
        clear hK K
        simp only [Act.put]
        replace HX := Lib.hid (HX.out.trans hX)
        replace K7 := Lib.hid (K7.out.turn ht (fun e => N8_7.out e.symm))
        replace K8 := Lib.hid hk
        replace K9 := Lib.hid (K9.out.turn ht (fun e => N9_8.out e))
        clear hk ht hX
        refine stepS_call (o := ⟨_, _, _, _, _, _⟩) rfl (by rfl) (fun K hK => ?_)
        refine wp_store_sc TS (.tmp 9) (.tmp 15) rfl g9 h _ TS (by rfl) (by rfl) arr_TS K9.out ?_
        intro u7 hk ht _
        have hX : Turn (fun i => v3.heap.size ≤ i) u6 u7 := ht.mono (fun i hi _ => by subst hi; exact G9.out)
        refine hK _ _ hX ?_
        clear hK K
        simp only [Act.put]
        replace HX := Lib.hid (HX.out.trans hX)
        replace K7 := Lib.hid (K7.out.turn ht (fun e => N9_7.out e.symm))
        replace K8 := Lib.hid (K8.out.turn ht (fun e => N9_8.out e.symm))
        replace K9 := Lib.hid hk
        clear hk ht hX
        refine wpGs_done ?_
        go_wp2
        go_meet
        exact ⟨g7, g8, g9, rfl, rfl, rfl, ⟨K7.out, K8.out, K9.out⟩, Below.trans HD.out (HX.out.below (B := v3.heap.size) (Nat.le_of_eq HN.out.symm) (fun i hi => hi))⟩
      · skip
        refine stepS_call (o := ⟨_, _, _, _, _, _⟩) rfl (by rfl) (fun K hK => ?_)
        refine wp_alloc_arr TS rfl arrz_TS ?_
        intro g9 u3 hg hk hb
        refine hK _ _ (Turn.ofBelow hb) ?_
        clear hK K
        simp only [Act.put, List.setIfInBounds_toArray, List.set_cons_zero, List.set_cons_succ]
        have G9 : Hid (v3.heap.size ≤ g9) := Nat.le_trans (Nat.le_of_eq HN.out.symm) (Nat.le_trans HX.out.size hg)
        have N9_7 : Hid (g9 ≠ g7) := (Nat.ne_of_lt (Nat.lt_of_lt_of_le K7.out.lt hg)).symm
        replace HX := Lib.hid (HX.out.trans (Turn.ofBelow hb))
        replace K7 := Lib.hid (K7.out.ext hb)
        have K9 := Lib.hid hk
        clear hk hg hb
        refine stepS_call (o := ⟨_, _, _, _, _, _⟩) rfl (by rfl) (fun K hK => ?_)
        refine wp_alloc_arr TS rfl arrz_TS ?_
        intro g8 u4 hg hk hb
        refine hK _ _ (Turn.ofBelow hb) ?_
        clear hK K
        simp only [Act.put, List.setIfInBounds_toArray, List.set_cons_zero, List.set_cons_succ]
        have G8 : Hid (v3.heap.size ≤ g8) := Nat.le_trans (Nat.le_of_eq HN.out.symm) (Nat.le_trans HX.out.size hg)
        have N8_7 : Hid (g8 ≠ g7) := (Nat.ne_of_lt (Nat.lt_of_lt_of_le K7.out.lt hg)).symm
        have N8_9 : Hid (g8 ≠ g9) := (Nat.ne_of_lt (Nat.lt_of_lt_of_le K9.out.lt hg)).symm
        replace HX := Lib.hid (HX.out.trans (Turn.ofBelow hb))
        replace K7 := Lib.hid (K7.out.ext hb)
        replace K9 := Lib.hid (K9.out.ext hb)
        have K8 := Lib.hid hk
        clear hk hg hb
        refine stepS_call (o := ⟨_, _, _, _, _, _⟩) rfl (by rfl) (fun K hK => ?_)
        refine wp_store_sc TS (.tmp 7) (.tmp 13) rfl g7 f _ TS (by rfl) (by rfl) arr_TS K7.out ?_
        intro u5 hk ht _
        have hX : Turn (fun i => v3.heap.size ≤ i) u4 u5 := ht.mono (fun i hi _ => by subst hi; exact G7.out)
        refine hK _ _ hX ?_
        clear hK K
        simp only [Act.put]
        replace HX := Lib.hid (HX.out.trans hX)
        replace K7 := Lib.hid hk
        replace K9 := Lib.hid (K9.out.turn ht (fun e => N9_7.out e))
        replace K8 := Lib.hid (K8.out.turn ht (fun e => N8_7.out e))
        clear hk ht hX
        refine stepS_call (o := ⟨_, _, _, _, _, _⟩) rfl (by rfl) (fun K hK => ?_)
        refine wp_store_sc TS (.tmp 8) (.tmp 14) rfl g8 g _ TS (by rfl) (by rfl) arr_TS K8.out ?_
        intro u6 hk ht _
        have hX : Turn (fun i => v3.heap.size ≤ i) u5 u6 := ht.mono (fun i hi _ => by subst hi; exact G8.out)
        refine hK _ _ hX ?_
        clear hK K
        simp only [Act.put]
        replace HX := Lib.hid (HX.out.trans hX)
        replace K7 := Lib.hid (K7.out.turn ht (fun e => N8_7.out e.symm))
        replace K9 := Lib.hid (K9.out.turn ht (fun e => N8_9.out e.symm))
        replace K8 := Lib.hid hk
        clear hk ht hX
        refine stepS_call (o := ⟨_, _, _, _, _, _⟩) rfl (by rfl) (fun K hK => ?_)
        refine wp_store_sc TS (.tmp 9) (.tmp 15) rfl g9 h _ TS (by rfl) (by rfl) arr_TS K9.out ?_
        intro u7 hk ht _
        have hX : Turn (fun i => v3.heap.size ≤ i) u6 u7 := ht.mono (fun i hi _ => by subst hi; exact G9.out)
        refine hK _ _ hX ?_
        clear hK K
        simp only [Act.put]
        replace HX := Lib.hid (HX.out.trans hX)
        replace K7 := Lib.hid (K7.out.turn ht (fun e => N9_7.out e.symm))
        replace K9 := Lib.hid hk
        replace K8 := Lib.hid (K8.out.turn ht (fun e => N8_9.out e))
        clear hk ht hX
        refine wpGs_done ?_
        go_wp2
        go_meet
        exact ⟨g7, g8, g9, rfl, rfl, rfl, ⟨K7.out, K8.out, K9.out⟩, Below.trans HD.out (HX.out.below (B := v3.heap.size) (Nat.le_of_eq HN.out.symm) (fun i hi => hi))⟩
    · skip
      refine stepS_call (o := ⟨_, _, _, _, _, _⟩) rfl (by rfl) (fun K hK => ?_)
      refine wp_alloc_arr TS rfl arrz_TS ?_
      intro g8 u2 hg hk hb
      refine hK _ _ (Turn.ofBelow hb) ?_
      clear hK K
      simp only [Act.put, List.setIfInBounds_toArray, List.set_cons_zero, List.set_cons_succ]
      have G8 : Hid (v3.heap.size ≤ g8) := Nat.le_trans (Nat.le_of_eq HN.out.symm) (Nat.le_trans HX.out.size hg)
      replace HX := Lib.hid (HX.out.trans (Turn.ofBelow hb))
      have K8 := Lib.hid hk
      clear hk hg hb
      refine ⟨?_, ?_⟩
      · skip
        refine stepS_call (o := ⟨_, _, _, _, _, _⟩) rfl (by rfl) (fun K hK => ?_)
        refine wp_alloc_arr TS rfl arrz_TS ?_
        intro g7 u3 hg hk hb
        refine hK _ _ (Turn.ofBelow hb) ?_
        clear hK K
        simp only [Act.put, List.setIfInBounds_toArray, List.set_cons_zero, List.set_cons_succ]
        have G7 : Hid (v3.heap.size ≤ g7) := Nat.le_trans (Nat.le_of_eq HN.out.symm) (Nat.le_trans HX.out.size hg)
        have N7_8 : Hid (g7 ≠ g8) := (Nat.ne_of_lt (Nat.lt_of_lt_of_le K8.out.lt hg)).symm
        replace HX := Lib.hid (HX.out.trans (Turn.ofBelow hb))
        replace K8 := Lib.hid (K8.out.ext hb)
        have K7 := Lib.hid hk
        clear hk hg hb
        refine stepS_call (o := ⟨_, _, _, _, _, _⟩) rfl (by rfl) (fun K hK => ?_)
        refine wp_alloc_arr TS rfl arrz_TS ?_
        intro g9 u4 hg hk hb
        refine hK _ _ (Turn.ofBelow hb) ?_
        clear hK K
        simp only [Act.put, List.setIfInBounds_toArray, List.set_cons_zero, List.set_cons_succ]
        have G9 : Hid (v3.heap.size ≤ g9) := Nat.le_trans (Nat.le_of_eq HN.out.symm) (Nat.le_trans HX.out.size hg)
        have N9_8 : Hid (g9 ≠ g8) := (Nat.ne_of_lt (Nat.lt_of_lt_of_le K8.out.lt hg)).symm
        have N9_7 : Hid (g9 ≠ g7) := (Nat.ne_of_lt (Nat.lt_of_lt_of_le K7.out.lt hg)).symm
        replace HX := Lib.hid (HX.out.trans (Turn.ofBelow hb))
        replace K8 := Lib.hid (K8.out.ext hb)
        replace K7 := Lib.hid (K7.out.ext hb)
        have K9 := Lib.hid hk
        clear hk hg hb
        refine stepS_call (o := ⟨_, _, _, _, _, _⟩) rfl (by rfl) (fun K hK => ?_)
        refine wp_store_sc TS (.tmp 7) (.tmp 13) rfl g7 f _ TS (by rfl) (by rfl) arr_TS K7.out ?_
        intro u5 hk ht _
        have hX : Turn (fun i => v3.heap.size ≤ i) u4 u5 := ht.mono (fun i hi _ => by subst hi; exact G7.out)
        refine hK _ _ hX ?_
        clear hK K
        simp only [Act.put]
        replace HX := Lib.hid (HX.out.trans hX)
        replace K8 := Lib.hid (K8.out.turn ht (fun e => N7_8.out e.symm))
        replace K7 := Lib.hid hk
        replace K9 := Lib.hid (K9.out.turn ht (fun e => N9_7.out e))
        clear hk ht hX
        refine stepS_call (o := ⟨_, _, _, _, _, _⟩) rfl (by rfl) (fun K hK => ?_)
        refine wp_store_sc TS (.tmp 8) (.tmp 14) rfl g8 g _ TS (by rfl) (by rfl) arr_TS K8.out ?_
        intro u6 hk ht _
        have hX : Turn (fun i => v3.heap.size ≤ i) u5 u6 := ht.mono (fun i hi _ => by subst hi; exact G8.out)
        refine hK _ _ hX ?_
        clear hK K
        simp only [Act.put]
        replace HX := Lib.hid (HX.out.trans hX)
        replace K8 := Lib.hid hk
        replace K7 := Lib.hid (K7.out.turn ht (fun e => N7_8.out e))
        replace K9 := Lib.hid (K9.out.turn ht (fun e => N9_8.out e))
        clear hk ht hX
        refine stepS_call (o := ⟨_, _, _, _, _, _⟩) rfl (by rfl) (fun K hK => ?_)
        refine wp_store_sc TS (.tmp 9) (.tmp 15) rfl g9 h _ TS (by rfl) (by rfl) arr_TS K9.out ?_
        intro u7 hk ht _
        have hX : Turn (fun i => v3.heap.size ≤ i) u6 u7 := ht.mono (fun i hi _ => by subst hi; exact G9.out)
        refine hK _ _ hX ?_
        clear hK K
        simp only [Act.put]
        replace HX := Lib.hid (HX.out.trans hX)
        replace K8 := Lib.hid (K8.out.turn ht (fun e => N9_8.out e.symm))
        replace K7 := Lib.hid (K7.out.turn ht (fun e => N9_7.out e.symm))
        replace K9 := Lib.hid hk
        clear hk ht hX
        refine wpGs_done ?_
        go_wp2
        go_meet
        exact ⟨g7, g8, g9, rfl, rfl, rfl, ⟨K7.out, K8.out, K9.out⟩, Below.trans HD.out (HX.out.below (B := v3.heap.size) (Nat.le_of_eq HN.out.symm) (fun i hi => hi))⟩
      · skip
        refine stepS_call (o := ⟨_, _, _, _, _, _⟩) rfl (by rfl) (fun K hK => ?_)
        refine wp_alloc_arr TS rfl arrz_TS ?_
        intro g9 u3 hg hk hb
        refine hK _ _ (Turn.ofBelow hb) ?_
        clear hK K
        simp only [Act.put, List.setIfInBounds_toArray, List.set_cons_zero, List.set_cons_succ]
        have G9 : Hid (v3.heap.size ≤ g9) := Nat.le_trans (Nat.le_of_eq HN.out.symm) (Nat.le_trans HX.out.size hg)
        have N9_8 : Hid (g9 ≠ g8) := (Nat.ne_of_lt (Nat.lt_of_lt_of_le K8.out.lt hg)).symm
        replace HX := Lib.hid (HX.out.trans (Turn.ofBelow hb))
        replace K8 := Lib.hid (K8.out.ext hb)
        have K9 := Lib.hid hk
        clear hk hg hb
        refine stepS_call (o := ⟨_, _, _, _, _, _⟩) rfl (by rfl) (fun K hK => ?_)
        refine wp_alloc_arr TS rfl arrz_TS ?_
        intro g7 u4 hg hk hb
        refine hK _ _ (Turn.ofBelow hb) ?_
        clear hK K
        simp only [Act.put, List.setIfInBounds_toArray, List.set_cons_zero, List.set_cons_succ]
        have G7 : Hid (v3.heap.size ≤ g7) := Nat.le_trans (Nat.le_of_eq HN.out.symm) (Nat.le_trans HX.out.size hg)
        have N7_8 : Hid (g7 ≠ g8) := (Nat.ne_of_lt (Nat.lt_of_lt_of_le K8.out.lt hg)).symm
        have N7_9 : Hid (g7 ≠ g9) := (Nat.ne_of_lt (Nat.lt_of_lt_of_le K9.out.lt hg)).symm
        replace HX := Lib.hid (HX.out.trans (Turn.ofBelow hb))
        replace K8 := Lib.hid (K8.out.ext hb)
        replace K9 := Lib.hid (K9.out.ext hb)
        have K7 := Lib.hid hk
        clear hk hg hb
        refine stepS_call (o := ⟨_, _, _, _, _, _⟩) rfl (by rfl) (fun K hK => ?_)
        refine wp_store_sc TS (.tmp 7) (.tmp 13) rfl g7 f _ TS (by rfl) (by rfl) arr_TS K7.out ?_
        intro u5 hk ht _
        have hX : Turn (fun i => v3.heap.size ≤ i) u4 u5 := ht.mono (fun i hi _ => by subst hi; exact G7.out)
        refine hK _ _ hX ?_
        clear hK K
        simp only [Act.put]
        replace HX := Lib.hid (HX.out.trans hX)
        replace K8 := Lib.hid (K8.out.turn ht (fun e => N7_8.out e.symm))
        replace K9 := Lib.hid (K9.out.turn ht (fun e => N7_9.out e.symm))
        replace K7 := Lib.hid hk
        clear hk ht hX
        refine stepS_call (o := ⟨_, _, _, _, _, _⟩) rfl (by rfl) (fun K hK => ?_)
        refine wp_store_sc TS (.tmp 8) (.tmp 14) rfl g8 g _ TS (by rfl) (by rfl) arr_TS K8.out ?_
        intro u6 hk ht _
        have hX : Turn (fun i => v3.heap.size ≤ i) u5 u6 := ht.mono (fun i hi _ => by subst hi; exact G8.out)
        refine hK _ _ hX ?_
        clear hK K
        simp only [Act.put]
        replace HX := Lib.hid (HX.out.trans hX)
        replace K8 := Lib.hid hk
        replace K9 := Lib.hid (K9.out.turn ht (fun e => N9_8.out e))
        replace K7 := Lib.hid (K7.out.turn ht (fun e => N7_8.out e))
        clear hk ht hX
        refine stepS_call (o := ⟨_, _, _, _, _, _⟩) rfl (by rfl) (fun K hK => ?_)
        refine wp_store_sc TS (.tmp 9) (.tmp 15) rfl g9 h _ TS (by rfl) (by rfl) arr_TS K9.out ?_
        intro u7 hk ht _
        have hX : Turn (fun i => v3.heap.size ≤ i) u6 u7 := ht.mono (fun i hi _ => by subst hi; exact G9.out)
        refine hK _ _ hX ?_
        clear hK K
        simp only [Act.put]
        replace HX := Lib.hid (HX.out.trans hX)
        replace K8 := Lib.hid (K8.out.turn ht (fun e => N9_8.out e.symm))
        replace K9 := Lib.hid hk
        replace K7 := Lib.hid (K7.out.turn ht (fun e => N7_9.out e))
        clear hk ht hX
        refine wpGs_done ?_
        go_wp2
        go_meet
        exact ⟨g7, g8, g9, rfl, rfl, rfl, ⟨K7.out, K8.out, K9.out⟩, Below.trans HD.out (HX.out.below (B := v3.heap.size) (Nat.le_of_eq HN.out.symm) (fun i hi => hi))⟩
    · skip
      refine stepS_call (o := ⟨_, _, _, _, _, _⟩) rfl (by rfl) (fun K hK => ?_)
      refine wp_alloc_arr TS rfl arrz_TS ?_
      intro g9 u2 hg hk hb
      refine hK _ _ (Turn.ofBelow hb) ?_
      clear hK K
      simp only [Act.put, List.setIfInBounds_toArray, List.set_cons_zero, List.set_cons_succ]
      have G9 : Hid (v3.heap.size ≤ g9) := Nat.le_trans (Nat.le_of_eq HN.out.symm) (Nat.le_trans HX.out.size hg)
      replace HX := Lib.hid (HX.out.trans (Turn.ofBelow hb))
      have K9 := Lib.hid hk
      clear hk hg hb
      refine ⟨?_, ?_⟩
      · skip
        refine stepS_call (o := ⟨_, _, _, _, _, _⟩) rfl (by rfl) (fun K hK => ?_)
        refine wp_alloc_arr TS rfl arrz_TS ?_
        intro g7 u3 hg hk hb
        refine hK _ _ (Turn.ofBelow hb) ?_
        clear hK K
        simp only [Act.put, List.setIfInBounds_toArray, List.set_cons_zero, List.set_cons_succ]
        have G7 : Hid (v3.heap.size ≤ g7) := Nat.le_trans (Nat.le_of_eq HN.out.symm) (Nat.le_trans HX.out.size hg)
        have N7_9 : Hid (g7 ≠ g9) := (Nat.ne_of_lt (Nat.lt_of_lt_of_le K9.out.lt hg)).symm
        replace HX := Lib.hid (HX.out.trans (Turn.ofBelow hb))
        replace K9 := Lib.hid (K9.out.ext hb)
        have K7 := Lib.hid hk
        clear hk hg hb
        refine stepS_call (o := ⟨_, _, _, _, _, _⟩) rfl (by rfl) (fun K hK => ?_)
        refine wp_alloc_arr TS rfl arrz_TS ?_
        intro g8 u4 hg hk hb
        refine hK _ _ (Turn.ofBelow hb) ?_
        clear hK K
        simp only [Act.put, List.setIfInBounds_toArray, List.set_cons_zero, List.set_cons_succ]
        have G8 : Hid (v3.heap.size ≤ g8) := Nat.le_trans (Nat.le_of_eq HN.out.symm) (Nat.le_trans HX.out.size hg)
        have N8_9 : Hid (g8 ≠ g9) := (Nat.ne_of_lt (Nat.lt_of_lt_of_le K9.out.lt hg)).symm
        have N8_7 : Hid (g8 ≠ g7) := (Nat.ne_of_lt (Nat.lt_of_lt_of_le K7.out.lt hg)).symm
        replace HX := Lib.hid (HX.out.trans (Turn.ofBelow hb))
        replace K9 := Lib.hid (K9.out.ext hb)
        replace K7 := Lib.hid (K7.out.ext hb)
        have K8 := Lib.hid hk
        clear hk hg hb
        refine stepS_call (o := ⟨_, _, _, _, _, _⟩) rfl (by rfl) (fun K hK => ?_)
        refine wp_store_sc TS (.tmp 7) (.tmp 13) rfl g7 f _ TS (by rfl) (by rfl) arr_TS K7.out ?_
        intro u5 hk ht _
        have hX : Turn (fun i => v3.heap.size ≤ i) u4 u5 := ht.mono (fun i hi _ => by subst hi; exact G7.out)
        refine hK _ _ hX ?_
        clear hK K
        simp only [Act.put]
        replace HX := Lib.hid (HX.out.trans hX)
        replace K9 := Lib.hid (K9.out.turn ht (fun e => N7_9.out e.symm))
        replace K7 := Lib.hid hk
        replace K8 := Lib.hid (K8.out.turn ht (fun e => N8_7.out e))
        clear hk ht hX
        refine stepS_call (o := ⟨_, _, _, _, _, _⟩) rfl (by rfl) (fun K hK => ?_)
        refine wp_store_sc TS (.tmp 8) (.tmp 14) rfl g8 g _ TS (by rfl) (by rfl) arr_TS K8.out ?_
        intro u6 hk ht _
        have hX : Turn (fun i => v3.heap.size ≤ i) u5 u6 := ht.mono (fun i hi _ => by subst hi; exact G8.out)
        refine hK _ _ hX ?_
        clear hK K
        simp only [Act.put]
        replace HX := Lib.hid (HX.out.trans hX)
        replace K9 := Lib.hid (K9.out.turn ht (fun e => N8_9.out e.symm))
        replace K7 := Lib.hid (K7.out.turn ht (fun e => N8_7.out e.symm))
        replace K8 := Lib.hid hk
        clear hk ht hX
        refine stepS_call (o := ⟨_, _, _, _, _, _⟩) rfl (by rfl) (fun K hK => ?_)
        refine wp_store_sc TS (.tmp 9) (.tmp 15) rfl g9 h _ TS (by rfl) (by rfl) arr_TS K9.out ?_
        intro u7 hk ht _
        have hX : Turn (fun i => v3.heap.size ≤ i) u6 u7 := ht.mono (fun i hi _ => by subst hi; exact G9.out)
        refine hK _ _ hX ?_
        clear hK K
        simp only [Act.put]
        replace HX := Lib.hid (HX.out.trans hX)
        replace K9 := Lib.hid hk
        replace K7 := Lib.hid (K7.out.turn ht (fun e => N7_9.out e))
        replace K8 := Lib.hid (K8.out.turn ht (fun e => N8_9.out e))
        clear hk ht hX
        refine wpGs_done ?_
        go_wp2
        go_meet
        exact ⟨g7, g8, g9, rfl, rfl, rfl, ⟨K7.out, K8.out, K9.out⟩, Below.trans HD.out (HX.out.below (B := v3.heap.size) (Nat.le_of_eq HN.out.symm) (fun i hi => hi))⟩
      · skip
        refine stepS_call (o := ⟨_, _, _, _, _, _⟩) rfl (by rfl) (fun K hK => ?_)
        refine wp_alloc_arr TS rfl arrz_TS ?_
        intro g8 u3 hg hk hb
        refine hK _ _ (Turn.ofBelow hb) ?_
        clear hK K
        simp only [Act.put, List.setIfInBounds_toArray, List.set_cons_zero, List.set_cons_succ]
        have G8 : Hid (v3.heap.size ≤ g8) := Nat.le_trans (Nat.le_of_eq HN.out.symm) (Nat.le_trans HX.out.size hg)
        have N8_9 : Hid (g8 ≠ g9) := (Nat.ne_of_lt (Nat.lt_of_lt_of_le K9.out.lt hg)).symm
        replace HX := Lib.hid (HX.out.trans (Turn.ofBelow hb))
        replace K9 := Lib.hid (K9.out.ext hb)
        have K8 := Lib.hid hk
        clear hk hg hb
        refine stepS_call (o := ⟨_, _, _, _, _, _⟩) rfl (by rfl) (fun K hK => ?_)
        refine wp_alloc_arr TS rfl arrz_TS ?_
        intro g7 u4 hg hk hb
        refine hK _ _ (Turn.ofBelow hb) ?_
        clear hK K
        simp only [Act.put, List.setIfInBounds_toArray, List.set_cons_zero, List.set_cons_succ]
        have G7 : Hid (v3.heap.size ≤ g7) := Nat.le_trans (Nat.le_of_eq HN.out.symm) (Nat.le_trans HX.out.size hg)
        have N7_9 : Hid (g7 ≠ g9) := (Nat.ne_of_lt (Nat.lt_of_lt_of_le K9.out.lt hg)).symm
        have N7_8 : Hid (g7 ≠ g8) := (Nat.ne_of_lt (Nat.lt_of_lt_of_le K8.out.lt hg)).symm
        replace HX := Lib.hid (HX.out.trans (Turn.ofBelow hb))
        replace K9 := Lib.hid (K9.out.ext hb)
        replace K8 := Lib.hid (K8.out.ext hb)
        have K7 := Lib.hid hk
        clear hk hg hb
        refine stepS_call (o := ⟨_, _, _, _, _, _⟩) rfl (by rfl) (fun K hK => ?_)
        refine wp_store_sc TS (.tmp 7) (.tmp 13) rfl g7 f _ TS (by rfl) (by rfl) arr_TS K7.out ?_
        intro u5 hk ht _
        have hX : Turn (fun i => v3.heap.size ≤ i) u4 u5 := ht.mono (fun i hi _ => by subst hi; exact G7.out)
        refine hK _ _ hX ?_
        clear hK K
        simp only [Act.put]
        replace HX := Lib.hid (HX.out.trans hX)
        replace K9 := Lib.hid (K9.out.turn ht (fun e => N7_9.out e.symm))
        replace K8 := Lib.hid (K8.out.turn ht (fun e => N7_8.out e.symm))
        replace K7 := Lib.hid hk
        clear hk ht hX
        refine stepS_call (o := ⟨_, _, _, _, _, _⟩) rfl (by rfl) (fun K hK => ?_)
        refine wp_store_sc TS (.tmp 8) (.tmp 14) rfl g8 g _ TS (by rfl) (by rfl) arr_TS K8.out ?_
        intro u6 hk ht _
        have hX : Turn (fun i => v3.heap.size ≤ i) u5 u6 := ht.mono (fun i hi _ => by subst hi; exact G8.out)
        refine hK _ _ hX ?_
        clear hK K
        simp only [Act.put]
        replace HX := Lib.hid (HX.out.trans hX)
        replace K9 := Lib.hid (K9.out.turn ht (fun e => N8_9.out e.symm))
        replace K8 := Lib.hid hk
        replace K7 := Lib.hid (K7.out.turn ht (fun e => N7_8.out e))
        clear hk ht hX
        refine stepS_call (o := ⟨_, _, _, _, _, _⟩) rfl (by rfl) (fun K hK => ?_)
        refine wp_store_sc TS (.tmp 9) (.tmp 15) rfl g9 h _ TS (by rfl) (by rfl) arr_TS K9.out ?_
        intro u7 hk ht _
        have hX : Turn (fun i => v3.heap.size ≤ i) u6 u7 := ht.mono (fun i hi _ => by subst hi; exact G9.out)
        refine hK _ _ hX ?_
        clear hK K
        simp only [Act.put]
        replace HX := Lib.hid (HX.out.trans hX)
        replace K9 := Lib.hid hk
        replace K8 := Lib.hid (K8.out.turn ht (fun e => N8_9.out e))
        replace K7 := Lib.hid (K7.out.turn ht (fun e => N7_9.out e))
        clear hk ht hX
        refine wpGs_done ?_
        go_wp2
        go_meet
        exact ⟨g7, g8, g9, rfl, rfl, rfl, ⟨K7.out, K8.out, K9.out⟩, Below.trans HD.out (HX.out.below (B := v3.heap.size) (Nat.le_of_eq HN.out.symm) (fun i hi => hi))⟩
  case rest =>
    obtain ⟨g7, g8, g9, rfl, rfl, rfl, hk, hb⟩ := hcut
    obtain ⟨k7, k8, k9⟩ := hk.out
    replace hb := hb.out
    generalize wc = u2 at *
    replace HB := Lib.hid (HB.out.trans (hb.mono HB.out.size))
    replace HG := Lib.hid (HG.out.below hb)
    replace HT := Lib.hid (HT.out.below hb)
    replace K3 := Lib.hid (K3.out.ext hb)
    replace K4 := Lib.hid (K4.out.ext hb)
    replace K5 := Lib.hid (K5.out.ext hb)
    have K7 := Lib.hid k7
    have K8 := Lib.hid k8
    have K9 := Lib.hid k9
    clear hk hb k7 k8 k9
    go_wp2_with fail
    refine wp_region_gr [(0, true), (1, true), (2, true), (5, true), (6, true), (8, true), (9, true), (3, false), (4, false), (7, false), (10, false), (11, false), (12, true), (13, true), (14, true), (15, true), (16, true), (19, true), (20, true), (22, true), (23, true), (17, false), (18, false), (21, false), (24, false), (25, false), (26, true), (27, true)] (by kernel_rfl) (by kernel_rfl) (by kernel_rfl) (by kernel_rfl) (fun _ _ _ _ _ h => h) ?_
    have hb : Ext u2 u2.drew := Ext.drew _
    replace HB := Lib.hid (HB.out.trans (hb.mono HB.out.size))
    replace HG := Lib.hid (HG.out.below hb)
    replace HT := Lib.hid (HT.out.below hb)
    replace K3 := Lib.hid (K3.out.ext hb)
    replace K4 := Lib.hid (K4.out.ext hb)
    replace K5 := Lib.hid (K5.out.ext hb)
    replace K7 := Lib.hid (K7.out.ext hb)
    replace K8 := Lib.hid (K8.out.ext hb)
    replace K9 := Lib.hid (K9.out.ext hb)
    clear hb
    generalize u2.drew = u3 at *
    refine wpGr_read (o := ⟨_, _, _, _, _, _⟩) (v := .agg (sc f)) rfl (by rfl) (fun w' hw' => rd_load_sc TS (.tmp 7) rfl g7 f TS (by rfl) arr_TS (K7.out.ext hw')) ?_
    simp only [Act.put, List.setIfInBounds_toArray, List.set_cons_zero, List.set_cons_succ]
    refine wpGr_read (o := ⟨_, _, _, _, _, _⟩) (v := .agg (sc g)) rfl (by rfl) (fun w' hw' => rd_load_sc TS (.tmp 8) rfl g8 g TS (by rfl) arr_TS (K8.out.ext hw')) ?_
    simp only [Act.put, List.setIfInBounds_toArray, List.set_cons_zero, List.set_cons_succ]
    refine wpGr_read (o := ⟨_, _, _, _, _, _⟩) (v := .agg (sc h)) rfl (by rfl) (fun w' hw' => rd_load_sc TS (.tmp 9) rfl g9 h TS (by rfl) arr_TS (K9.out.ext hw')) ?_
    simp only [Act.put, List.setIfInBounds_toArray, List.set_cons_zero, List.set_cons_succ]
    refine wpGr_read (o := ⟨_, _, _, _, _, _⟩) (v := .agg (sc f)) rfl (by rfl) (fun w' hw' => rd_load_sc TS (.tmp 7) rfl g7 f TS (by rfl) arr_TS (K7.out.ext hw')) ?_
    simp only [Act.put, List.setIfInBounds_toArray, List.set_cons_zero, List.set_cons_succ]
    refine wpGr_read (o := ⟨_, _, _, _, _, _⟩) (v := .agg (sc g)) rfl (by rfl) (fun w' hw' => rd_load_sc TS (.tmp 8) rfl g8 g TS (by rfl) arr_TS (K8.out.ext hw')) ?_
    simp only [Act.put, List.setIfInBounds_toArray, List.set_cons_zero, List.set_cons_succ]
    refine wpGr_read (o := ⟨_, _, _, _, _, _⟩) (v := .agg (sc f)) rfl (by rfl) (fun w' hw' => rd_load_sc TS (.tmp 7) rfl g7 f TS (by rfl) arr_TS (K7.out.ext hw')) ?_
    simp only [Act.put, List.setIfInBounds_toArray, List.set_cons_zero, List.set_cons_succ]
    refine wpGr_read (o := ⟨_, _, _, _, _, _⟩) (v := .agg (sc h)) rfl (by rfl) (fun w' hw' => rd_load_sc TS (.tmp 9) rfl g9 h TS (by rfl) arr_TS (K9.out.ext hw')) ?_
    simp only [Act.put, List.setIfInBounds_toArray, List.set_cons_zero, List.set_cons_succ]
    refine wpGr_call (o := ⟨_, _, _, _, _, _⟩) rfl (by rfl) (fun K hK => ?_)
    go_simp
    refine (CA1.out u3).mono ?_
    rintro e u4 ⟨rfl, hb⟩
    refine hK _ _ hb ?_
    clear hK K
    replace HB := Lib.hid (HB.out.trans (hb.mono HB.out.size))
    replace HG := Lib.hid (HG.out.below hb)
    replace HT := Lib.hid (HT.out.below hb)
    replace K3 := Lib.hid (K3.out.ext hb)
    replace K4 := Lib.hid (K4.out.ext hb)
    replace K5 := Lib.hid (K5.out.ext hb)
    replace K7 := Lib.hid (K7.out.ext hb)
    replace K8 := Lib.hid (K8.out.ext hb)
    replace K9 := Lib.hid (K9.out.ext hb)
    clear hb
    refine wpGr_call (o := ⟨_, _, _, _, _, _⟩) rfl (by rfl) (fun K hK => ?_)
    go_simp
    refine (CA2.out u4).mono ?_
    rintro e u5 ⟨rfl, hb⟩
    refine hK _ _ hb ?_
    clear hK K
    replace HB := Lib.hid (HB.out.trans (hb.mono HB.out.size))
    replace HG := Lib.hid (HG.out.below hb)
    replace HT := Lib.hid (HT.out.below hb)
    replace K3 := Lib.hid (K3.out.ext hb)
    replace K4 := Lib.hid (K4.out.ext hb)
    replace K5 := Lib.hid (K5.out.ext hb)
    replace K7 := Lib.hid (K7.out.ext hb)
    replace K8 := Lib.hid (K8.out.ext hb)
    replace K9 := Lib.hid (K9.out.ext hb)
    clear hb
    refine wpGr_call (o := ⟨_, _, _, _, _, _⟩) rfl (by rfl) (fun K hK => ?_)
    go_simp
    refine (CA3.out u5).mono ?_
    rintro e u6 ⟨rfl, hb⟩
    refine hK _ _ hb ?_
    clear hK K
    replace HB := Lib.hid (HB.out.trans (hb.mono HB.out.size))
    replace HG := Lib.hid (HG.out.below hb)
    replace HT := Lib.hid (HT.out.below hb)
    replace K3 := Lib.hid (K3.out.ext hb)
    replace K4 := Lib.hid (K4.out.ext hb)
    replace K5 := Lib.hid (K5.out.ext hb)
    replace K7 := Lib.hid (K7.out.ext hb)
    replace K8 := Lib.hid (K8.out.ext hb)
    replace K9 := Lib.hid (K9.out.ext hb)
    clear hb
    refine wpGr_call (o := ⟨_, _, _, _, _, _⟩) rfl (by rfl) (fun K hK => ?_)
    go_simp
    refine (CA4.out u6).mono ?_
    rintro e u7 ⟨rfl, hb⟩
    refine hK _ _ hb ?_
    clear hK K
    replace HB := Lib.hid (HB.out.trans (hb.mono HB.out.size))
    replace HG := Lib.hid (HG.out.below hb)
    replace HT := Lib.hid (HT.out.below hb)
    replace K3 := Lib.hid (K3.out.ext hb)
    replace K4 := Lib.hid (K4.out.ext hb)
    replace K5 := Lib.hid (K5.out.ext hb)
    replace K7 := Lib.hid (K7.out.ext hb)
    replace K8 := Lib.hid (K8.out.ext hb)
    replace K9 := Lib.hid (K9.out.ext hb)
    clear hb
    refine wpGr_call (o := ⟨_, _, _, _, _, _⟩) rfl (by rfl) (fun K hK => ?_)
    go_simp
    refine (CA5.out u7).mono ?_
    rintro e u8 ⟨rfl, hb⟩
    refine hK _ _ hb ?_
    clear hK K
    replace HB := Lib.hid (HB.out.trans (hb.mono HB.out.size))
    replace HG := Lib.hid (HG.out.below hb)
    replace HT := Lib.hid (HT.out.below hb)
    replace K3 := Lib.hid (K3.out.ext hb)
    replace K4 := Lib.hid (K4.out.ext hb)
    replace K5 := Lib.hid (K5.out.ext hb)
    replace K7 := Lib.hid (K7.out.ext hb)
    replace K8 := Lib.hid (K8.out.ext hb)
    replace K9 := Lib.hid (K9.out.ext hb)
    clear hb
    refine wpGr_read (o := ⟨_, _, _, _, _, _⟩) (v := .bool false) rfl (by rfl) (fun w' _ => rd_neq_sc (.tmp 20) (.tmp 27) TS rfl A2 A5 (by rfl) (by rfl) S1.out) ?_
    simp only [Act.put, List.setIfInBounds_toArray, List.set_cons_zero, List.set_cons_succ]
    iterate 1 (refine wpGr_read (o := ⟨_, _, _, _, _, _⟩) (v := ?_) rfl (by rfl) ?_ ?_; rotate_left; (intro w' hw'; go_simp; with_reducible rfl); simp only [Act.put, List.setIfInBounds_toArray, List.set_cons_zero, List.set_cons_succ])
    refine wpGr_read (o := ⟨_, _, _, _, _, _⟩) (v := .agg (sc f)) rfl (by rfl) (fun w' hw' => rd_load_sc TS (.tmp 7) rfl g7 f TS (by rfl) arr_TS (K7.out.ext hw')) ?_
    simp only [Act.put, List.setIfInBounds_toArray, List.set_cons_zero, List.set_cons_succ]
    refine wpGr_read (o := ⟨_, _, _, _, _, _⟩) (v := .agg (sc g)) rfl (by rfl) (fun w' hw' => rd_load_sc TS (.tmp 8) rfl g8 g TS (by rfl) arr_TS (K8.out.ext hw')) ?_
    simp only [Act.put, List.setIfInBounds_toArray, List.set_cons_zero, List.set_cons_succ]
    refine wpGr_read (o := ⟨_, _, _, _, _, _⟩) (v := .agg (sc h)) rfl (by rfl) (fun w' hw' => rd_load_sc TS (.tmp 9) rfl g9 h TS (by rfl) arr_TS (K9.out.ext hw')) ?_
    simp only [Act.put, List.setIfInBounds_toArray, List.set_cons_zero, List.set_cons_succ]
    refine wpGr_read (o := ⟨_, _, _, _, _, _⟩) (v := .agg (sc f)) rfl (by rfl) (fun w' hw' => rd_load_sc TS (.tmp 7) rfl g7 f TS (by rfl) arr_TS (K7.out.ext hw')) ?_
    simp only [Act.put, List.setIfInBounds_toArray, List.set_cons_zero, List.set_cons_succ]
    refine wpGr_read (o := ⟨_, _, _, _, _, _⟩) (v := .agg (sc g)) rfl (by rfl) (fun w' hw' => rd_load_sc TS (.tmp 8) rfl g8 g TS (by rfl) arr_TS (K8.out.ext hw')) ?_
    simp only [Act.put, List.setIfInBounds_toArray, List.set_cons_zero, List.set_cons_succ]
    refine wpGr_read (o := ⟨_, _, _, _, _, _⟩) (v := .agg (sc f)) rfl (by rfl) (fun w' hw' => rd_load_sc TS (.tmp 7) rfl g7 f TS (by rfl) arr_TS (K7.out.ext hw')) ?_
    simp only [Act.put, List.setIfInBounds_toArray, List.set_cons_zero, List.set_cons_succ]
    refine wpGr_read (o := ⟨_, _, _, _, _, _⟩) (v := .agg (sc h)) rfl (by rfl) (fun w' hw' => rd_load_sc TS (.tmp 9) rfl g9 h TS (by rfl) arr_TS (K9.out.ext hw')) ?_
    simp only [Act.put, List.setIfInBounds_toArray, List.set_cons_zero, List.set_cons_succ]
    refine wpGr_call (o := ⟨_, _, _, _, _, _⟩) rfl (by rfl) (fun K hK => ?_)
    go_simp
    refine (CA1.out u8).mono ?_
    rintro e u9 ⟨rfl, hb⟩
    refine hK _ _ hb ?_
    clear hK K
    replace HB := Lib.hid (HB.out.trans (hb.mono HB.out.size))
    replace HG := Lib.hid (HG.out.below hb)
    replace HT := Lib.hid (HT.out.below hb)
    replace K3 := Lib.hid (K3.out.ext hb)
    replace K4 := Lib.hid (K4.out.ext hb)
    replace K5 := Lib.hid (K5.out.ext hb)
    replace K7 := Lib.hid (K7.out.ext hb)
    replace K8 := Lib.hid (K8.out.ext hb)
    replace K9 := Lib.hid (K9.out.ext hb)
    clear hb
    refine wpGr_call (o := ⟨_, _, _, _, _, _⟩) rfl (by rfl) (fun K hK => ?_)
    go_simp
    refine (CA6.out u9).mono ?_
    rintro e u10 ⟨rfl, hb⟩
    refine hK _ _ hb ?_
    clear hK K
    replace HB := Lib.hid (HB.out.trans (hb.mono HB.out.size))
    replace HG := Lib.hid (HG.out.below hb)
    replace HT := Lib.hid (HT.out.below hb)
    replace K3 := Lib.hid (K3.out.ext hb)
    replace K4 := Lib.hid (K4.out.ext hb)
    replace K5 := Lib.hid (K5.out.ext hb)
    replace K7 := Lib.hid (K7.out.ext hb)
    replace K8 := Lib.hid (K8.out.ext hb)
    replace K9 := Lib.hid (K9.out.ext hb)
    clear hb
    refine wpGr_call (o := ⟨_, _, _, _, _, _⟩) rfl (by rfl) (fun K hK => ?_)
    go_simp
    refine (CA7.out u10).mono ?_
    rintro e u11 ⟨rfl, hb⟩
    refine hK _ _ hb ?_
    clear hK K
    replace HB := Lib.hid (HB.out.trans (hb.mono HB.out.size))
    replace HG := Lib.hid (HG.out.below hb)
    replace HT := Lib.hid (HT.out.below hb)
    replace K3 := Lib.hid (K3.out.ext hb)
    replace K4 := Lib.hid (K4.out.ext hb)
    replace K5 := Lib.hid (K5.out.ext hb)
    replace K7 := Lib.hid (K7.out.ext hb)
    replace K8 := Lib.hid (K8.out.ext hb)
    replace K9 := Lib.hid (K9.out.ext hb)
    clear hb
    refine wpGr_call (o := ⟨_, _, _, _, _, _⟩) rfl (by rfl) (fun K hK => ?_)
    go_simp
    refine (CA8.out u11).mono ?_
    rintro e u12 ⟨rfl, hb⟩
    refine hK _ _ hb ?_
    clear hK K
    replace HB := Lib.hid (HB.out.trans (hb.mono HB.out.size))
    replace HG := Lib.hid (HG.out.below hb)
    replace HT := Lib.hid (HT.out.below hb)
    replace K3 := Lib.hid (K3.out.ext hb)
    replace K4 := Lib.hid (K4.out.ext hb)
    replace K5 := Lib.hid (K5.out.ext hb)
    replace K7 := Lib.hid (K7.out.ext hb)
    replace K8 := Lib.hid (K8.out.ext hb)
    replace K9 := Lib.hid (K9.out.ext hb)
    clear hb
    refine wpGr_call (o := ⟨_, _, _, _, _, _⟩) rfl (by rfl) (fun K hK => ?_)
    go_simp
    refine (CA9.out u12).mono ?_
    rintro e u13 ⟨rfl, hb⟩
    refine hK _ _ hb ?_
    clear hK K
    replace HB := Lib.hid (HB.out.trans (hb.mono HB.out.size))
    replace HG := Lib.hid (HG.out.below hb)
    replace HT := Lib.hid (HT.out.below hb)
    replace K3 := Lib.hid (K3.out.ext hb)
    replace K4 := Lib.hid (K4.out.ext hb)
    replace K5 := Lib.hid (K5.out.ext hb)
    replace K7 := Lib.hid (K7.out.ext hb)
    replace K8 := Lib.hid (K8.out.ext hb)
    replace K9 := Lib.hid (K9.out.ext hb)
    clear hb
    refine wpGr_read (o := ⟨_, _, _, _, _, _⟩) (v := .bool false) rfl (by rfl) (fun w' _ => rd_neq_sc (.tmp 34) (.tmp 41) TS rfl A6 A9 (by rfl) (by rfl) S2.out) ?_
    simp only [Act.put, List.setIfInBounds_toArray, List.set_cons_zero, List.set_cons_succ]
    iterate 1 (refine wpGr_read (o := ⟨_, _, _, _, _, _⟩) (v := ?_) rfl (by rfl) ?_ ?_; rotate_left; (intro w' hw'; go_simp; with_reducible rfl); simp only [Act.put, List.setIfInBounds_toArray, List.set_cons_zero, List.set_cons_succ])
    refine wpGr_done ?_
    have c15 := K3.out.word 15 (by omega)
    rw [HV.out] at c15
    go_upto_region 5 with fail
    go_cut [11, 12] (fun s11 s12 wx => ∃ g11 g12 : Nat, s11 = .pointer (some ⟨g11, 0, none⟩) ∧ s12 = .pointer (some ⟨g12, 0, none⟩) ∧ Hid (Blk wx g11 TS (sc L) ∧ Blk wx g12 TS (sc H)) ∧ Hid (Below u13.heap.size u13 wx))
    case first =>
      refine wp_region_gs (F := fun i => u13.heap.size ≤ i) (.rd 0 (.rd 1 (.rd 4 (.rd 5 (.three 2 (.three 3 (.three 6 (.three 7 (.two 8 (.call 9 (.call 10 (.call 11 .done))) 9 (.call 8 (.call 10 (.call 11 .done)))) 8 (.two 7 (.call 9 (.call 10 (.call 11 .done))) 9 (.call 7 (.call 10 (.call 11 .done)))) 9 (.two 7 (.call 8 (.call 10 (.call 11 .done))) 8 (.call 7 (.call 10 (.call 11 .done))))) 8 (.two 6 (.two 7 (.call 9 (.call 10 (.call 11 .done))) 9 (.call 7 (.call 10 (.call 11 .done)))) 9 (.call 6 (.call 7 (.call 10 (.call 11 .done))))) 9 (.two 6 (.two 7 (.call 8 (.call 10 (.call 11 .done))) 8 (.call 7 (.call 10 (.call 11 .done)))) 8 (.call 6 (.call 7 (.call 10 (.call 11 .done)))))) 8 (.two 3 (.two 6 (.two 7 (.call 9 (.call 10 (.call 11 .done))) 9 (.call 7 (.call 10 (.call 11 .done)))) 9 (.call 6 (.call 7 (.call 10 (.call 11 .done))))) 9 (.call 3 (.call 6 (.call 7 (.call 10 (.call 11 .done)))))) 9 (.two 3 (.two 6 (.two 7 (.call 8 (.call 10 (.call 11 .done))) 8 (.call 7 (.call 10 (.call 11 .done)))) 8 (.call 6 (.call 7 (.call 10 (.call 11 .done))))) 8 (.call 3 (.call 6 (.call 7 (.call 10 (.call 11 .done))))))) 8 (.two 2 (.two 3 (.two 6 (.two 7 (.call 9 (.call 10 (.call 11 .done))) 9 (.call 7 (.call 10 (.call 11 .done)))) 9 (.call 6 (.call 7 (.call 10 (.call 11 .done))))) 9 (.call 3 (.call 6 (.call 7 (.call 10 (.call 11 .done)))))) 9 (.call 2 (.call 3 (.call 6 (.call 7 (.call 10 (.call 11 .done))))))) 9 (.two 2 (.two 3 (.two 6 (.two 7 (.call 8 (.call 10 (.call 11 .done))) 8 (.call 7 (.call 10 (.call 11 .done)))) 8 (.call 6 (.call 7 (.call 10 (.call 11 .done))))) 8 (.call 3 (.call 6 (.call 7 (.call 10 (.call 11 .done)))))) 8 (.call 2 (.call 3 (.call 6 (.call 7 (.call 10 (.call 11 .done)))))))))))) (by kernel_rfl) (by kernel_rfl) (by kernel_rfl) (by kernel_rfl) (fun _ _ _ _ _ h => h) ?_
      have hb : Ext u13 u13.drew := Ext.drew _
      have HN : Hid (u13.drew.heap.size = u13.heap.size) := rfl
      have HD := Lib.hid hb
      replace HB := Lib.hid (HB.out.trans (hb.mono HB.out.size))
      replace HG := Lib.hid (HG.out.below hb)
      replace HT := Lib.hid (HT.out.below hb)
      replace K3 := Lib.hid (K3.out.ext hb)
      replace K4 := Lib.hid (K4.out.ext hb)
      replace K5 := Lib.hid (K5.out.ext hb)
      replace K7 := Lib.hid (K7.out.ext hb)
      replace K8 := Lib.hid (K8.out.ext hb)
      replace K9 := Lib.hid (K9.out.ext hb)
      clear hb
      have HX : Hid (Turn (fun i => u13.heap.size ≤ i) u13.drew u13.drew) := Turn.refl _ _
      generalize u13.drew = u14 at *
      refine wpGs_read (o := ⟨_, _, _, _, _, _⟩) (v := .agg (sc f)) rfl (by rfl) (fun w' hw' => rd_load_sc TS (.tmp 7) rfl g7 f TS (by rfl) arr_TS (K7.out.turn hw' (fun (e : u13.heap.size ≤ g7) => Nat.not_le.2 (Nat.lt_of_lt_of_eq K7.out.lt HN.out) e))) ?_
      simp only [Act.put, List.setIfInBounds_toArray, List.set_cons_zero, List.set_cons_succ]
      (refine wpGs_read (o := ⟨_, _, _, _, _, _⟩) (v := ?_) rfl (by rfl) ?_ ?_; rotate_left; (intro w' hw'; go_simp; with_reducible rfl); simp only [Act.put, List.setIfInBounds_toArray, List.set_cons_zero, List.set_cons_succ])
      refine wpGs_read (o := ⟨_, _, _, _, _, _⟩) (v := .agg (sc f)) rfl (by rfl) (fun w' hw' => rd_load_sc TS (.tmp 7) rfl g7 f TS (by rfl) arr_TS (K7.out.turn hw' (fun (e : u13.heap.size ≤ g7) => Nat.not_le.2 (Nat.lt_of_lt_of_eq K7.out.lt HN.out) e))) ?_
      simp only [Act.put, List.setIfInBounds_toArray, List.set_cons_zero, List.set_cons_succ]
      (refine wpGs_read (o := ⟨_, _, _, _, _, _⟩) (v := ?_) rfl (by rfl) ?_ ?_; rotate_left; (intro w' hw'; go_simp; with_reducible rfl); simp only [Act.put, List.setIfInBounds_toArray, List.set_cons_zero, List.set_cons_succ])
      refine ⟨?_, ?_, ?_⟩
      · skip
        refine stepS_call (o := ⟨_, _, _, _, _, _⟩) rfl (by rfl) (fun K hK => ?_)
        go_simp
        refine (CB.out u14).mono ?_
        rintro e u15 ⟨rfl, hb⟩
        refine hK _ _ (Turn.ofBelow hb) ?_
        clear hK K
        replace HX := Lib.hid (HX.out.trans (Turn.ofBelow hb))
        clear hb
        refine ⟨?_, ?_, ?_⟩
        · skip
          refine stepS_call (o := ⟨_, _, _, _, _, _⟩) rfl (by rfl) (fun K hK => ?_)
          go_simp
          refine (CL.out u15).mono ?_
          rintro e u16 ⟨rfl, hb⟩
          refine hK _ _ (Turn.ofBelow hb) ?_
          clear hK K
          replace HX := Lib.hid (HX.out.trans (Turn.ofBelow hb))
          clear hb
          refine ⟨?_, ?_, ?_⟩
          · skip
            refine stepS_call (o := ⟨_, _, _, _, _, _⟩) rfl (by rfl) (fun K hK => ?_)
            go_simp
            refine (CB.out u16).mono ?_
            rintro e u17 ⟨rfl, hb⟩
            refine hK _ _ (Turn.ofBelow hb) ?_
            clear hK K
            replace HX := Lib.hid (HX.out.trans (Turn.ofBelow hb))
            clear hb
            refine ⟨?_, ?_, ?_⟩
            · skip
              refine stepS_call (o := ⟨_, _, _, _, _, _⟩) rfl (by rfl) (fun K hK => ?_)
              go_simp
              refine (CH.out u17).mono ?_
              rintro e u18 ⟨rfl, hb⟩
              refine hK _ _ (Turn.ofBelow hb) ?_
              clear hK K
              replace HX := Lib.hid (HX.out.trans (Turn.ofBelow hb))
              clear hb
              refine ⟨?_, ?_⟩
              · skip
                refine stepS_call (o := ⟨_, _, _, _, _, _⟩) rfl (by rfl) (fun K hK => ?_)
                refine wp_alloc_arr TS rfl arrz_TS ?_
                intro g11 u19 hg hk hb
                refine hK _ _ (Turn.ofBelow hb) ?_
                clear hK K
                simp only [Act.put, List.setIfInBounds_toArray, List.set_cons_zero, List.set_cons_succ]
                have G11 : Hid (u13.heap.size ≤ g11) := Nat.le_trans (Nat.le_of_eq HN.out.symm) (Nat.le_trans HX.out.size hg)
                replace HX := Lib.hid (HX.out.trans (Turn.ofBelow hb))
                have K11 := Lib.hid hk
                clear hk hg hb
                refine stepS_call (o := ⟨_, _, _, _, _, _⟩) rfl (by rfl) (fun K hK => ?_)
                refine wp_alloc_arr TS rfl arrz_TS ?_
                intro g12 u20 hg hk hb
                refine hK _ _ (Turn.ofBelow hb) ?_
                clear hK K
                simp only [Act.put, List.setIfInBounds_toArray, List.set_cons_zero, List.set_cons_succ]
                have G12 : Hid (u13.heap.size ≤ g12) := Nat.le_trans (Nat.le_of_eq HN.out.symm) (Nat.le_trans HX.out.size hg)
                have N12_11 : Hid (g12 ≠ g11) := (Nat.ne_of_lt (Nat.lt_of_lt_of_le K11.out.lt hg)).symm
                replace HX := Lib.hid (HX.out.trans (Turn.ofBelow hb))
                replace K11 := Lib.hid (K11.out.ext hb)
                have K12 := Lib.hid hk
                clear hk hg hb
                refine stepS_call (o := ⟨_, _, _, _, _, _⟩) rfl (by rfl) (fun K hK => ?_)
                refine wp_store_sc TS (.tmp 11) (.tmp 51) rfl g11 L _ TS (by rfl) (by rfl) arr_TS K11.out ?_
                intro u21 hk ht _
                have hX : Turn (fun i => u13.heap.size ≤ i) u20 u21 := ht.mono (fun i hi _ => by subst hi; exact G11.out)
                refine hK _ _ hX ?_
                clear hK K
                simp only [Act.put]
                replace HX := Lib.hid (HX.out.trans hX)
                replace K11 := Lib.hid hk
                replace K12 := Lib.hid (K12.out.turn ht (fun e => N12_11.out e))
                clear hk ht hX
                refine stepS_call (o := ⟨_, _, _, _, _, _⟩) rfl (by rfl) (fun K hK => ?_)
                refine wp_store_sc TS (.tmp 12) (.tmp 55) rfl g12 H _ TS (by rfl) (by rfl) arr_TS K12.out ?_
                intro u22 hk ht _
                have hX : Turn (fun i => u13.heap.size ≤ i) u21 u22 := ht.mono (fun i hi _ => by subst hi; exact G12.out)
                refine hK _ _ hX ?_
                clear hK K
                simp only [Act.put]
                replace HX := Lib.hid (HX.out.trans hX)
                replace K11 := Lib.hid (K11.out.turn ht (fun e => N12_11.out e.symm))
                replace K12 := Lib.hid hk
                clear hk ht hX
                refine wpGs_done ?_
                go_wp2
                go_meet
                exact ⟨g11, g12, rfl, rfl, ⟨K11.out, K12.out⟩, Below.trans HD.out (HX.out.below (B := u13.heap.size) (Nat.le_of_eq HN.out.symm) (fun i hi => hi))⟩
              · skip
                refine stepS_call (o := ⟨_, _, _, _, _, _⟩) rfl (by rfl) (fun K hK => ?_)
                refine wp_alloc_arr TS rfl arrz_TS ?_
                intro g12 u19 hg hk hb
                refine hK _ _ (Turn.ofBelow hb) ?_
                clear hK K
                simp only [Act.put, List.setIfInBounds_toArray, List.set_cons_zero, List.set_cons_succ]
                have G12 : Hid (u13.heap.size ≤ g12) := Nat.le_trans (Nat.le_of_eq HN.out.symm) (Nat.le_trans HX.out.size hg)
                replace HX := Lib.hid (HX.out.trans (Turn.ofBelow hb))
                have K12 := Lib.hid hk
                clear hk hg hb
                refine stepS_call (o := ⟨_, _, _, _, _, _⟩) rfl (by rfl) (fun K hK => ?_)
                refine wp_alloc_arr TS rfl arrz_TS ?_
                intro g11 u20 hg hk hb
                refine hK _ _ (Turn.ofBelow hb) ?_
                clear hK K
                simp only [Act.put, List.setIfInBounds_toArray, List.set_cons_zero, List.set_cons_succ]
                have G11 : Hid (u13.heap.size ≤ g11) := Nat.le_trans (Nat.le_of_eq HN.out.symm) (Nat.le_trans HX.out.size hg)
                have N11_12 : Hid (g11 ≠ g12) := (Nat.ne_of_lt (Nat.lt_of_lt_of_le K12.out.lt hg)).symm
                replace HX := Lib.hid (HX.out.trans (Turn.ofBelow hb))
                replace K12 := Lib.hid (K12.out.ext hb)
                have K11 := Lib.hid hk
                clear hk hg hb
                refine stepS_call (o := ⟨_, _, _, _, _, _⟩) rfl (by rfl) (fun K hK => ?_)
                refine wp_store_sc TS (.tmp 11) (.tmp 51) rfl g11 L _ TS (by rfl) (by rfl) arr_TS K11.out ?_
                intro u21 hk ht _
                have hX : Turn (fun i => u13.heap.size ≤ i) u20 u21 := ht.mono (fun i hi _ => by subst hi; exact G11.out)
                refine hK _ _ hX ?_
                clear hK K
                simp only [Act.put]
                replace HX := Lib.hid (HX.out.trans hX)
                replace K12 := Lib.hid (K12.out.turn ht (fun e => N11_12.out e.symm))
                replace K11 := Lib.hid hk
                clear hk ht hX
                refine stepS_call (o := ⟨_, _, _, _, _, _⟩) rfl (by rfl) (fun K hK => ?_)
                refine wp_store_sc TS (.tmp 12) (.tmp 55) rfl g12 H _ TS (by rfl) (by rfl) arr_TS K12.out ?_
                intro u22 hk ht _
                have hX : Turn (fun i => u13.heap.size ≤ i) u21 u22 := ht.mono (fun i hi _ => by subst hi; exact G12.out)
                refine hK _ _ hX ?_
                clear hK K
                simp only [Act.put]
                replace HX := Lib.hid (HX.out.trans hX)
                replace K12 := Lib.hid hk
                replace K11 := Lib.hid (K11.out.turn ht (fun e => N11_12.out e))
                clear hk ht hX
                refine wpGs_done ?_
                go_wp2
                go_meet
                exact ⟨g11, g12, rfl, rfl, ⟨K11.out, K12.out⟩, Below.trans HD.out (HX.out.below (B := u13.heap.size) (Nat.le_of_eq HN.out.symm) (fun i hi => hi))⟩
            · skip
              refine stepS_call (o := ⟨_, _, _, _, _, _⟩) rfl (by rfl) (fun K hK => ?_)
              refine wp_alloc_arr TS rfl arrz_TS ?_
              intro g11 u18 hg hk hb
              refine hK _ _ (Turn.ofBelow hb) ?_
              clear hK K
              simp only [Act.put, List.setIfInBounds_toArray, List.set_cons_zero, List.set_cons_succ]
              have G11 : Hid (u13.heap.size ≤ g11) := Nat.le_trans (Nat.le_of_eq HN.out.symm) (Nat.le_trans HX.out.size hg)
              replace HX := Lib.hid (HX.out.trans (Turn.ofBelow hb))
              have K11 := Lib.hid hk
              clear hk hg hb
              refine ⟨?_, ?_⟩
              · skip
                refine stepS_call (o := ⟨_, _, _, _, _, _⟩) rfl (by rfl) (fun K hK => ?_)
                go_simp
                refine (CH.out u18).mono ?_
                rintro e u19 ⟨rfl, hb⟩
                refine hK _ _ (Turn.ofBelow hb) ?_
                clear hK K
                replace HX := Lib.hid (HX.out.trans (Turn.ofBelow hb))
                replace K11 := Lib.hid (K11.out.ext hb)
                clear hb
                refine stepS_call (o := ⟨_, _, _, _, _, _⟩) rfl (by rfl) (fun K hK => ?_)
                refine wp_alloc_arr TS rfl arrz_TS ?_
                intro g12 u20 hg hk hb
                refine hK _ _ (Turn.ofBelow hb) ?_
                clear hK K
                simp only [Act.put, List.setIfInBounds_toArray, List.set_cons_zero, List.set_cons_succ]
                have G12 : Hid (u13.heap.size ≤ g12) := Nat.le_trans (Nat.le_of_eq HN.out.symm) (Nat.le_trans HX.out.size hg)
                have N12_11 : Hid (g12 ≠ g11) := (Nat.ne_of_lt (Nat.lt_of_lt_of_le K11.out.lt hg)).symm
                replace HX := Lib.hid (HX.out.trans (Turn.ofBelow hb))
                replace K11 := Lib.hid (K11.out.ext hb)
                have K12 := Lib.hid hk
                clear hk hg hb
                refine stepS_call (o := ⟨_, _, _, _, _, _⟩) rfl (by rfl) (fun K hK => ?_)
                refine wp_store_sc TS (.tmp 11) (.tmp 51) rfl g11 L _ TS (by rfl) (by rfl) arr_TS K11.out ?_
                intro u21 hk ht _
                have hX : Turn (fun i => u13.heap.size ≤ i) u20 u21 := ht.mono (fun i hi _ => by subst hi; exact G11.out)
                refine hK _ _ hX ?_
                clear hK K
                simp only [Act.put]
                replace HX := Lib.hid (HX.out.trans hX)
                replace K11 := Lib.hid hk
                replace K12 := Lib.hid (K12.out.turn ht (fun e => N12_11.out e))
                clear hk ht hX
                refine stepS_call (o := ⟨_, _, _, _, _, _⟩) rfl (by rfl) (fun K hK => ?_)
                refine wp_store_sc TS (.tmp 12) (.tmp 55) rfl g12 H _ TS (by rfl) (by rfl) arr_TS K12.out ?_
                intro u22 hk ht _
                have hX : Turn (fun i => u13.heap.size ≤ i) u21 u22 := ht.mono (fun i hi _ => by subst hi; exact G12.out)
                refine hK _ _ hX ?_
                clear hK K
                simp only [Act.put]
                replace HX := Lib.hid (HX.out.trans hX)
                replace K11 := Lib.hid (K11.out.turn ht (fun e => N12_11.out e.symm))
                replace K12 := Lib.hid hk
                clear hk ht hX
                refine wpGs_done ?_
                go_wp2
                go_meet
                exact ⟨g11, g12, rfl, rfl, ⟨K11.out, K12.out⟩, Below.trans HD.out (HX.out.below (B := u13.heap.size) (Nat.le_of_eq HN.out.symm) (fun i hi => hi))⟩
              · skip
                refine stepS_call (o := ⟨_, _, _, _, _, _⟩) rfl (by rfl) (fun K hK => ?_)
                refine wp_alloc_arr TS rfl arrz_TS ?_
                intro g12 u19 hg hk hb
                refine hK _ _ (Turn.ofBelow hb) ?_
                clear hK K
                simp only [Act.put, List.setIfInBounds_toArray, List.set_cons_zero, List.set_cons_succ]
                have G12 : Hid (u13.heap.size ≤ g12) := Nat.le_trans (Nat.le_of_eq HN.out.symm) (Nat.le_trans HX.out.size hg)
                have N12_11 : Hid (g12 ≠ g11) := (Nat.ne_of_lt (Nat.lt_of_lt_of_le K11.out.lt hg)).symm
                replace HX := Lib.hid (HX.out.trans (Turn.ofBelow hb))
                replace K11 := Lib.hid (K11.out.ext hb)
                have K12 := Lib.hid hk
                clear hk hg hb
                refine stepS_call (o := ⟨_, _, _, _, _, _⟩) rfl (by rfl) (fun K hK => ?_)
                go_simp
                refine (CH.out u19).mono ?_
                rintro e u20 ⟨rfl, hb⟩
                refine hK _ _ (Turn.ofBelow hb) ?_
                clear hK K
                replace HX := Lib.hid (HX.out.trans (Turn.ofBelow hb))
                replace K11 := Lib.hid (K11.out.ext hb)
                replace K12 := Lib.hid (K12.out.ext hb)
                clear hb
                refine stepS_call (o := ⟨_, _, _, _, _, _⟩) rfl (by rfl) (fun K hK => ?_)
                refine wp_store_sc TS (.tmp 11) (.tmp 51) rfl g11 L _ TS (by rfl) (by rfl) arr_TS K11.out ?_
                intro u21 hk ht _
                have hX : Turn (fun i => u13.heap.size ≤ i) u20 u21 := ht.mono (fun i hi _ => by subst hi; exact G11.out)
                refine hK _ _ hX ?_
                clear hK K
                simp only [Act.put]
                replace HX := Lib.hid (HX.out.trans hX)
                replace K11 := Lib.hid hk
                replace K12 := Lib.hid (K12.out.turn ht (fun e => N12_11.out e))
                clear hk ht hX
                refine stepS_call (o := ⟨_, _, _, _, _, _⟩) rfl (by rfl) (fun K hK => ?_)
                refine wp_store_sc TS (.tmp 12) (.tmp 55) rfl g12 H _ TS (by rfl) (by rfl) arr_TS K12.out ?_
                intro u22 hk ht _
                have hX : Turn (fun i => u13.heap.size ≤ i) u21 u22 := ht.mono (fun i hi _ => by subst hi; exact G12.out)
                refine hK _ _ hX ?_
                clear hK K
                simp only [Act.put]
                replace HX := Lib.hid (HX.out.trans hX)
                replace K11 := Lib.hid (K11.out.turn ht (fun e => N12_11.out e.symm))
                replace K12 := Lib.hid hk
                clear hk ht hX
                refine wpGs_done ?_
                go_wp2
                go_meet
                exact ⟨g11, g12, rfl, rfl, ⟨K11.out, K12.out⟩, Below.trans HD.out (HX.out.below (B := u13.heap.size) (Nat.le_of_eq HN.out.symm) (fun i hi => hi))⟩
            · skip
              refine stepS_call (o := ⟨_, _, _, _, _, _⟩) rfl (by rfl) (fun K hK => ?_)
              refine wp_alloc_arr TS rfl arrz_TS ?_
              intro g12 u18 hg hk hb
              refine hK _ _ (Turn.ofBelow hb) ?_
              clear hK K
              simp only [Act.put, List.setIfInBounds_toArray, List.set_cons_zero, List.set_cons_succ]
              have G12 : Hid (u13.heap.size ≤ g12) := Nat.le_trans (Nat.le_of_eq HN.out.symm) (Nat.le_trans HX.out.size hg)
              replace HX := Lib.hid (HX.out.trans (Turn.ofBelow hb))
              have K12 := Lib.hid hk
              clear hk hg hb
              refine ⟨?_, ?_⟩
              · skip
                refine stepS_call (o := ⟨_, _, _, _, _, _⟩) rfl (by rfl) (fun K hK => ?_)
                go_simp
                refine (CH.out u18).mono ?_
                rintro e u19 ⟨rfl, hb⟩
                refine hK _ _ (Turn.ofBelow hb) ?_
                clear hK K
                replace HX := Lib.hid (HX.out.trans (Turn.ofBelow hb))
                replace K12 := Lib.hid (K12.out.ext hb)
                clear hb
                refine stepS_call (o := ⟨_, _, _, _, _, _⟩) rfl (by rfl) (fun K hK => ?_)
                refine wp_alloc_arr TS rfl arrz_TS ?_
                intro g11 u20 hg hk hb
                refine hK _ _ (Turn.ofBelow hb) ?_
                clear hK K
                simp only [Act.put, List.setIfInBounds_toArray, List.set_cons_zero, List.set_cons_succ]
                have G11 : Hid (u13.heap.size ≤ g11) := Nat.le_trans (Nat.le_of_eq HN.out.symm) (Nat.le_trans HX.out.size hg)
                have N11_12 : Hid (g11 ≠ g12) := (Nat.ne_of_lt (Nat.lt_of_lt_of_le K12.out.lt hg)).symm
                replace HX := Lib.hid (HX.out.trans (Turn.ofBelow hb))
                replace K12 := Lib.hid (K12.out.ext hb)
                have K11 := Lib.hid hk
                clear hk hg hb
                refine stepS_call (o := ⟨_, _, _, _, _, _⟩) rfl (by rfl) (fun K hK => ?_)
                refine wp_store_sc TS (.tmp 11) (.tmp 51) rfl g11 L _ TS (by rfl) (by rfl) arr_TS K11.out ?_
                intro u21 hk ht _
                have hX : Turn (fun i => u13.heap.size ≤ i) u20 u21 := ht.mono (fun i hi _ => by subst hi; exact G11.out)
                refine hK _ _ hX ?_
                clear hK K
                simp only [Act.put]
                replace HX := Lib.hid (HX.out.trans hX)
                replace K12 := Lib.hid (K12.out.turn ht (fun e => N11_12.out e.symm))
                replace K11 := Lib.hid hk
                clear hk ht hX
                refine stepS_call (o := ⟨_, _, _, _, _, _⟩) rfl (by rfl) (fun K hK => ?_)
                refine wp_store_sc TS (.tmp 12) (.tmp 55) rfl g12 H _ TS (by rfl) (by rfl) arr_TS K12.out ?_
                intro u22 hk ht _
                have hX : Turn (fun i => u13.heap.size ≤ i) u21 u22 := ht.mono (fun i hi _ => by subst hi; exact G12.out)
                refine hK _ _ hX ?_
                clear hK K
                simp only [Act.put]
                replace HX := Lib.hid (HX.out.trans hX)
                replace K12 := Lib.hid hk
                replace K11 := Lib.hid (K11.out.turn ht (fun e => N11_12.out e))
                clear hk ht hX
                refine wpGs_done ?_
                go_wp2
                go_meet
                exact ⟨g11, g12, rfl, rfl, ⟨K11.out, K12.out⟩, Below.trans HD.out (HX.out.below (B := u13.heap.size) (Nat.le_of_eq HN.out.symm) (fun i hi => hi))⟩
              · skip
                refine stepS_call (o := ⟨_, _, _, _, _, _⟩) rfl (by rfl) (fun K hK => ?_)
                refine wp_alloc_arr TS rfl arrz_TS ?_
                intro g11 u19 hg hk hb
                refine hK _ _ (Turn.ofBelow hb) ?_
                clear hK K
                simp only [Act.put, List.setIfInBounds_toArray, List.set_cons_zero, List.set_cons_succ]
                have G11 : Hid (u13.heap.size ≤ g11) := Nat.le_trans (Nat.le_of_eq HN.out.symm) (Nat.le_trans HX.out.size hg)
                have N11_12 : Hid (g11 ≠ g12) := (Nat.ne_of_lt (Nat.lt_of_lt_of_le K12.out.lt hg)).symm
                replace HX := Lib.hid (HX.out.trans (Turn.ofBelow hb))
                replace K12 := Lib.hid (K12.out.ext hb)
                have K11 := Lib.hid hk
                clear hk hg hb
                refine stepS_call (o := ⟨_, _, _, _, _, _⟩) rfl (by rfl) (fun K hK => ?_)
                go_simp
                refine (CH.out u19).mono ?_
                rintro e u20 ⟨rfl, hb⟩
                refine hK _ _ (Turn.ofBelow hb) ?_
                clear hK K
                replace HX := Lib.hid (HX.out.trans (Turn.ofBelow hb))
                replace K12 := Lib.hid (K12.out.ext hb)
                replace K11 := Lib.hid (K11.out.ext hb)
                clear hb
                refine stepS_call (o := ⟨_, _, _, _, _, _⟩) rfl (by rfl) (fun K hK => ?_)
                refine wp_store_sc TS (.tmp 11) (.tmp 51) rfl g11 L _ TS (by rfl) (by rfl) arr_TS K11.out ?_
                intro u21 hk ht _
                have hX : Turn (fun i => u13.heap.size ≤ i) u20 u21 := ht.mono (fun i hi _ => by subst hi; exact G11.out)
                refine hK _ _ hX ?_
                clear hK K
                simp only [Act.put]
                replace HX := Lib.hid (HX.out.trans hX)
                replace K12 := Lib.hid (K12.out.turn ht (fun e => N11_12.out e.symm))
                replace K11 := Lib.hid hk
                clear hk ht hX
                refine stepS_call (o := ⟨_, _, _, _, _, _⟩) rfl (by rfl) (fun K hK => ?_)
                refine wp_store_sc TS (.tmp 12) (.tmp 55) rfl g12 H _ TS (by rfl) (by rfl) arr_TS K12.out ?_
                intro u22 hk ht _
                have hX : Turn (fun i => u13.heap.size ≤ i) u21 u22 := ht.mono (fun i hi _ => by subst hi; exact G12.out)
                refine hK _ _ hX ?_
                clear hK K
                simp only [Act.put]
                replace HX := Lib.hid (HX.out.trans hX)
                replace K12 := Lib.hid hk
                replace K11 := Lib.hid (K11.out.turn ht (fun e => N11_12.out e))
                clear hk ht hX
                refine wpGs_done ?_
                go_wp2
                go_meet
                exact ⟨g11, g12, rfl, rfl, ⟨K11.out, K12.out⟩, Below.trans HD.out (HX.out.below (B := u13.heap.size) (Nat.le_of_eq HN.out.symm) (fun i hi => hi))⟩
          · skip
            refine stepS_call (o := ⟨_, _, _, _, _, _⟩) rfl (by rfl) (fun K hK => ?_)
            refine wp_alloc_arr TS rfl arrz_TS ?_
            intro g11 u17 hg hk hb
            refine hK _ _ (Turn.ofBelow hb) ?_
            clear hK K
            simp only [Act.put, List.setIfInBounds_toArray, List.set_cons_zero, List.set_cons_succ]
            have G11 : Hid (u13.heap.size ≤ g11) := Nat.le_trans (Nat.le_of_eq HN.out.symm) (Nat.le_trans HX.out.size hg)
            replace HX := Lib.hid (HX.out.trans (Turn.ofBelow hb))
            have K11 := Lib.hid hk
            clear hk hg hb
            refine ⟨?_, ?_⟩
            · skip
              refine stepS_call (o := ⟨_, _, _, _, _, _⟩) rfl (by rfl) (fun K hK => ?_)
              go_simp
              refine (CB.out u17).mono ?_
              rintro e u18 ⟨rfl, hb⟩
              refine hK _ _ (Turn.ofBelow hb) ?_
              clear hK K
              replace HX := Lib.hid (HX.out.trans (Turn.ofBelow hb))
              replace K11 := Lib.hid (K11.out.ext hb)
              clear hb
              refine ⟨?_, ?_⟩
              · skip
                refine stepS_call (o := ⟨_, _, _, _, _, _⟩) rfl (by rfl) (fun K hK => ?_)
                go_simp
                refine (CH.out u18).mono ?_
                rintro e u19 ⟨rfl, hb⟩
                refine hK _ _ (Turn.ofBelow hb) ?_
                clear hK K
                replace HX := Lib.hid (HX.out.trans (Turn.ofBelow hb))
                replace K11 := Lib.hid (K11.out.ext hb)
                clear hb
                refine stepS_call (o := ⟨_, _, _, _, _, _⟩) rfl (by rfl) (fun K hK => ?_)
                refine wp_alloc_arr TS rfl arrz_TS ?_
                intro g12 u20 hg hk hb
                refine hK _ _ (Turn.ofBelow hb) ?_
                clear hK K
                simp only [Act.put, List.setIfInBounds_toArray, List.set_cons_zero, List.set_cons_succ]
                have G12 : Hid (u13.heap.size ≤ g12) := Nat.le_trans (Nat.le_of_eq HN.out.symm) (Nat.le_trans HX.out.size hg)
                have N12_11 : Hid (g12 ≠ g11) := (Nat.ne_of_lt (Nat.lt_of_lt_of_le K11.out.lt hg)).symm
                replace HX := Lib.hid (HX.out.trans (Turn.ofBelow hb))
                replace K11 := Lib.hid (K11.out.ext hb)
                have K12 := Lib.hid hk
                clear hk hg hb
                refine stepS_call (o := ⟨_, _, _, _, _, _⟩) rfl (by rfl) (fun K hK => ?_)
                refine wp_store_sc TS (.tmp 11) (.tmp 51) rfl g11 L _ TS (by rfl) (by rfl) arr_TS K11.out ?_
                intro u21 hk ht _
                have hX : Turn (fun i => u13.heap.size ≤ i) u20 u21 := ht.mono (fun i hi _ => by subst hi; exact G11.out)
                refine hK _ _ hX ?_
                clear hK K
                simp only [Act.put]
                replace HX := Lib.hid (HX.out.trans hX)
                replace K11 := Lib.hid hk
                replace K12 := Lib.hid (K12.out.turn ht (fun e => N12_11.out e))
                clear hk ht hX
                refine stepS_call (o := ⟨_, _, _, _, _, _⟩) rfl (by rfl) (fun K hK => ?_)
                refine wp_store_sc TS (.tmp 12) (.tmp 55) rfl g12 H _ TS (by rfl) (by rfl) arr_TS K12.out ?_
                intro u22 hk ht _
                have hX : Turn (fun i => u13.heap.size ≤ i) u21 u22 := ht.mono (fun i hi _ => by subst hi; exact G12.out)
                refine hK _ _ hX ?_
                clear hK K
                simp only [Act.put]
                replace HX := Lib.hid (HX.out.trans hX)
                replace K11 := Lib.hid (K11.out.turn ht (fun e => N12_11.out e.symm))
                replace K12 := Lib.hid hk
                clear hk ht hX
                refine wpGs_done ?_
                go_wp2
                go_meet
                exact ⟨g11, g12, rfl, rfl, ⟨K11.out, K12.out⟩, Below.trans HD.out (HX.out.below (B := u13.heap.size) (Nat.le_of_eq HN.out.symm) (fun i hi => hi))⟩
              · skip
                refine stepS_call (o := ⟨_, _, _, _, _, _⟩) rfl (by rfl) (fun K hK => ?_)
                refine wp_alloc_arr TS rfl arrz_TS ?_
                intro g12 u19 hg hk hb
                refine hK _ _ (Turn.ofBelow hb) ?_
                clear hK K
                simp only [Act.put, List.setIfInBounds_toArray, List.set_cons_zero, List.set_cons_succ]
                have G12 : Hid (u13.heap.size ≤ g12) := Nat.le_trans (Nat.le_of_eq HN.out.symm) (Nat.le_trans HX.out.size hg)
                have N12_11 : Hid (g12 ≠ g11) := (Nat.ne_of_lt (Nat.lt_of_lt_of_le K11.out.lt hg)).symm
                replace HX := Lib.hid (HX.out.trans (Turn.ofBelow hb))
                replace K11 := Lib.hid (K11.out.ext hb)
                have K12 := Lib.hid hk
                clear hk hg hb
                refine stepS_call (o := ⟨_, _, _, _, _, _⟩) rfl (by rfl) (fun K hK => ?_)
                go_simp
                refine (CH.out u19).mono ?_
                rintro e u20 ⟨rfl, hb⟩
                refine hK _ _ (Turn.ofBelow hb) ?_
                clear hK K
                replace HX := Lib.hid (HX.out.trans (Turn.ofBelow hb))
                replace K11 := Lib.hid (K11.out.ext hb)
                replace K12 := Lib.hid (K12.out.ext hb)
                clear hb
                refine stepS_call (o := ⟨_, _, _, _, _, _⟩) rfl (by rfl) (fun K hK => ?_)
                refine wp_store_sc TS (.tmp 11) (.tmp 51) rfl g11 L _ TS (by rfl) (by rfl) arr_TS K11.out ?_
                intro u21 hk ht _
                have hX : Turn (fun i => u13.heap.size ≤ i) u20 u21 := ht.mono (fun i hi _ => by subst hi; exact G11.out)
                refine hK _ _ hX ?_
                clear hK K
                simp only [Act.put]
                replace HX := Lib.hid (HX.out.trans hX)
                replace K11 := Lib.hid hk
                replace K12 := Lib.hid (K12.out.turn ht (fun e => N12_11.out e))
                clear hk ht hX
                refine stepS_call (o := ⟨_, _, _, _, _, _⟩) rfl (by rfl) (fun K hK => ?_)
                refine wp_store_sc TS (.tmp 12) (.tmp 55) rfl g12 H _ TS (by rfl) (by rfl) arr_TS K12.out ?_
                intro u22 hk ht _
                have hX : Turn (fun i => u13.heap.size ≤ i) u21 u22 := ht.mono (fun i hi _ => by subst hi; exact G12.out)
                refine hK _ _ hX ?_
                clear hK K
                simp only [Act.put]
                replace HX := Lib.hid (HX.out.trans hX)
                replace K11 := Lib.hid (K11.out.turn ht (fun e => N12_11.out e.symm))
                replace K12 := Lib.hid hk
                clear hk ht hX
                refine wpGs_done ?_
                go_wp2
                go_meet
                exact ⟨g11, g12, rfl, rfl, ⟨K11.out, K12.out⟩, Below.trans HD.out (HX.out.below (B := u13.heap.size) (Nat.le_of_eq HN.out.symm) (fun i hi => hi))⟩
            · skip
              refine stepS_call (o := ⟨_, _, _, _, _, _⟩) rfl (by rfl) (fun K hK => ?_)
              refine wp_alloc_arr TS rfl arrz_TS ?_
              intro g12 u18 hg hk hb
              refine hK _ _ (Turn.ofBelow hb) ?_
              clear hK K
              simp only [Act.put, List.setIfInBounds_toArray, List.set_cons_zero, List.set_cons_succ]
              have G12 : Hid (u13.heap.size ≤ g12) := Nat.le_trans (Nat.le_of_eq HN.out.symm) (Nat.le_trans HX.out.size hg)
              have N12_11 : Hid (g12 ≠ g11) := (Nat.ne_of_lt (Nat.lt_of_lt_of_le K11.out.lt hg)).symm
              replace HX := Lib.hid (HX.out.trans (Turn.ofBelow hb))
              replace K11 := Lib.hid (K11.out.ext hb)
              have K12 := Lib.hid hk
              clear hk hg hb
              refine stepS_call (o := ⟨_, _, _, _, _, _⟩) rfl (by rfl) (fun K hK => ?_)
              go_simp
              refine (CB.out u18).mono ?_
              rintro e u19 ⟨rfl, hb⟩
              refine hK _ _ (Turn.ofBelow hb) ?_
              clear hK K
              replace HX := Lib.hid (HX.out.trans (Turn.ofBelow hb))
              replace K11 := Lib.hid (K11.out.ext hb)
              replace K12 := Lib.hid (K12.out.ext hb)
              clear hb
              refine stepS_call (o := ⟨_, _, _, _, _, _⟩) rfl (by rfl) (fun K hK => ?_)
              go_simp
              refine (CH.out u19).mono ?_
              rintro e u20 ⟨rfl, hb⟩
              refine hK _ _ (Turn.ofBelow hb) ?_
              clear hK K
              replace HX := Lib.hid (HX.out.trans (Turn.ofBelow hb))
              replace K11 := Lib.hid (K11.out.ext hb)
              replace K12 := Lib.hid (K12.out.ext hb)
              clear hb
              refine stepS_call (o := ⟨_, _, _, _, _, _⟩) rfl (by rfl) (fun K hK => ?_)
              refine wp_store_sc TS (.tmp 11) (.tmp 51) rfl g11 L _ TS (by rfl) (by rfl) arr_TS K11.out ?_
              intro u21 hk ht _
              have hX : Turn (fun i => u13.heap.size ≤ i) u20 u21 := ht.mono (fun i hi _ => by subst hi; exact G11.out)
              refine hK _ _ hX ?_
              clear hK K
              simp only [Act.put]
              replace HX := Lib.hid (HX.out.trans hX)
              replace K11 := Lib.hid hk
              replace K12 := Lib.hid (K12.out.turn ht (fun e => N12_11.out e))
              clear hk ht hX
              refine stepS_call (o := ⟨_, _, _, _, _, _⟩) rfl (by rfl) (fun K hK => ?_)
              refine wp_store_sc TS (.tmp 12) (.tmp 55) rfl g12 H _ TS (by rfl) (by rfl) arr_TS K12.out ?_
              intro u22 hk ht _
              have hX : Turn (fun i => u13.heap.size ≤ i) u21 u22 := ht.mono (fun i hi _ => by subst hi; exact G12.out)
              refine hK _ _ hX ?_
              clear hK K
              simp only [Act.put]
              replace HX := Lib.hid (HX.out.trans hX)
              replace K11 := Lib.hid (K11.out.turn ht (fun e => N12_11.out e.symm))
              replace K12 := Lib.hid hk
              clear hk ht hX
              refine wpGs_done ?_
              go_wp2
              go_meet
              exact ⟨g11, g12, rfl, rfl, ⟨K11.out, K12.out⟩, Below.trans HD.out (HX.out.below (B := u13.heap.size) (Nat.le_of_eq HN.out.symm) (fun i hi => hi))⟩
          · skip
            refine stepS_call (o := ⟨_, _, _, _, _, _⟩) rfl (by rfl) (fun K hK => ?_)
            refine wp_alloc_arr TS rfl arrz_TS ?_
            intro g12 u17 hg hk hb
            refine hK _ _ (Turn.ofBelow hb) ?_
            clear hK K
            simp only [Act.put, List.setIfInBounds_toArray, List.set_cons_zero, List.set_cons_succ]
            have G12 : Hid (u13.heap.size ≤ g12) := Nat.le_trans (Nat.le_of_eq HN.out.symm) (Nat.le_trans HX.out.size hg)
            replace HX := Lib.hid (HX.out.trans (Turn.ofBelow hb))
            have K12 := Lib.hid hk
            clear hk hg hb
            refine ⟨?_, ?_⟩
            · skip
              refine stepS_call (o := ⟨_, _, _, _, _, _⟩) rfl (by rfl) (fun K hK => ?_)
              go_simp
              refine (CB.out u17).mono ?_
              rintro e u18 ⟨rfl, hb⟩
              refine hK _ _ (Turn.ofBelow hb) ?_
              clear hK K
              replace HX := Lib.hid (HX.out.trans (Turn.ofBelow hb))
              replace K12 := Lib.hid (K12.out.ext hb)
              clear hb
              refine ⟨?_, ?_⟩
              · skip
                refine stepS_call (o := ⟨_, _, _, _, _, _⟩) rfl (by rfl) (fun K hK => ?_)
                go_simp
                refine (CH.out u18).mono ?_
                rintro e u19 ⟨rfl, hb⟩
                refine hK _ _ (Turn.ofBelow hb) ?_
                clear hK K
                replace HX := Lib.hid (HX.out.trans (Turn.ofBelow hb))
                replace K12 := Lib.hid (K12.out.ext hb)
                clear hb
                refine stepS_call (o := ⟨_, _, _, _, _, _⟩) rfl (by rfl) (fun K hK => ?_)
                refine wp_alloc_arr TS rfl arrz_TS ?_
                intro g11 u20 hg hk hb
                refine hK _ _ (Turn.ofBelow hb) ?_
                clear hK K
                simp only [Act.put, List.setIfInBounds_toArray, List.set_cons_zero, List.set_cons_succ]
                have G11 : Hid (u13.heap.size ≤ g11) := Nat.le_trans (Nat.le_of_eq HN.out.symm) (Nat.le_trans HX.out.size hg)
                have N11_12 : Hid (g11 ≠ g12) := (Nat.ne_of_lt (Nat.lt_of_lt_of_le K12.out.lt hg)).symm
                replace HX := Lib.hid (HX.out.trans (Turn.ofBelow hb))
                replace K12 := Lib.hid (K12.out.ext hb)
                have K11 := Lib.hid hk
                clear hk hg hb
                refine stepS_call (o := ⟨_, _, _, _, _, _⟩) rfl (by rfl) (fun K hK => ?_)
                refine wp_store_sc TS (.tmp 11) (.tmp 51) rfl g11 L _ TS (by rfl) (by rfl) arr_TS K11.out ?_
                intro u21 hk ht _
                have hX : Turn (fun i => u13.heap.size ≤ i) u20 u21 := ht.mono (fun i hi _ => by subst hi; exact G11.out)
                refine hK _ _ hX ?_
                clear hK K
                simp only [Act.put]
                replace HX := Lib.hid (HX.out.trans hX)
                replace K12 := Lib.hid (K12.out.turn ht (fun e => N11_12.out e.symm))
                replace K11 := Lib.hid hk
                clear hk ht hX
                refine stepS_call (o := ⟨_, _, _, _, _, _⟩) rfl (by rfl) (fun K hK => ?_)
                refine wp_store_sc TS (.tmp 12) (.tmp 55) rfl g12 H _ TS (by rfl) (by rfl) arr_TS K12.out ?_
                intro u22 hk ht _
                have hX : Turn (fun i => u13.heap.size ≤ i) u21 u22 := ht.mono (fun i hi _ => by subst hi; exact G12.out)
                refine hK _ _ hX ?_
                clear hK K
                simp only [Act.put]
                replace HX := Lib.hid (HX.out.trans hX)
                replace K12 := Lib.hid hk
                replace K11 := Lib.hid (K11.out.turn ht (fun e => N11_12.out e))
                clear hk ht hX
                refine wpGs_done ?_
                go_wp2
                go_meet
                exact ⟨g11, g12, rfl, rfl, ⟨K11.out, K12.out⟩, Below.trans HD.out (HX.out.below (B := u13.heap.size) (Nat.le_of_eq HN.out.symm) (fun i hi => hi))⟩
              · skip
                refine stepS_call (o := ⟨_, _, _, _, _, _⟩) rfl (by rfl) (fun K hK => ?_)
                refine wp_alloc_arr TS rfl arrz_TS ?_
                intro g11 u19 hg hk hb
                refine hK _ _ (Turn.ofBelow hb) ?_
                clear hK K
                simp only [Act.put, List.setIfInBounds_toArray, List.set_cons_zero, List.set_cons_succ]
                have G11 : Hid (u13.heap.size ≤ g11) := Nat.le_trans (Nat.le_of_eq HN.out.symm) (Nat.le_trans HX.out.size hg)
                have N11_12 : Hid (g11 ≠ g12) := (Nat.ne_of_lt (Nat.lt_of_lt_of_le K12.out.lt hg)).symm
                replace HX := Lib.hid (HX.out.trans (Turn.ofBelow hb))
                replace K12 := Lib.hid (K12.out.ext hb)
                have K11 := Lib.hid hk
                clear hk hg hb
                refine stepS_call (o := ⟨_, _, _, _, _, _⟩) rfl (by rfl) (fun K hK => ?_)
                go_simp
                refine (CH.out u19).mono ?_
                rintro e u20 ⟨rfl, hb⟩
                refine hK _ _ (Turn.ofBelow hb) ?_
                clear hK K
                replace HX := Lib.hid (HX.out.trans (Turn.ofBelow hb))
                replace K12 := Lib.hid (K12.out.ext hb)
                replace K11 := Lib.hid (K11.out.ext hb)
                clear hb
                refine stepS_call (o := ⟨_, _, _, _, _, _⟩) rfl (by rfl) (fun K hK => ?_)
                refine wp_store_sc TS (.tmp 11) (.tmp 51) rfl g11 L _ TS (by rfl) (by rfl) arr_TS K11.out ?_
                intro u21 hk ht _
                have hX : Turn (fun i => u13.heap.size ≤ i) u20 u21 := ht.mono (fun i hi _ => by subst hi; exact G11.out)
                refine hK _ _ hX ?_
                clear hK K
                simp only [Act.put]
                replace HX := Lib.hid (HX.out.trans hX)
                replace K12 := Lib.hid (K12.out.turn ht (fun e => N11_12.out e.symm))
                replace K11 := Lib.hid hk
                clear hk ht hX
                refine stepS_call (o := ⟨_, _, _, _, _, _⟩) rfl (by rfl) (fun K hK => ?_)
                refine wp_store_sc TS (.tmp 12) (.tmp 55) rfl g12 H _ TS (by rfl) (by rfl) arr_TS K12.out ?_
                intro u22 hk ht _
                have hX : Turn (fun i => u13.heap.size ≤ i) u21 u22 := ht.mono (fun i hi _ => by subst hi; exact G12.out)
                refine hK _ _ hX ?_
                clear hK K
                simp only [Act.put]
                replace HX := Lib.hid (HX.out.trans hX)
                replace K12 := Lib.hid hk
                replace K11 := Lib.hid (K11.out.turn ht (fun e => N11_12.out e))
                clear hk ht hX
                refine wpGs_done ?_
                go_wp2
                go_meet
                exact ⟨g11, g12, rfl, rfl, ⟨K11.out, K12.out⟩, Below.trans HD.out (HX.out.below (B := u13.heap.size) (Nat.le_of_eq HN.out.symm) (fun i hi => hi))⟩
            · skip
              refine stepS_call (o := ⟨_, _, _, _, _, _⟩) rfl (by rfl) (fun K hK => ?_)
              refine wp_alloc_arr TS rfl arrz_TS ?_
              intro g11 u18 hg hk hb
              refine hK _ _ (Turn.ofBelow hb) ?_
              clear hK K
              simp only [Act.put, List.setIfInBounds_toArray, List.set_cons_zero, List.set_cons_succ]
              have G11 : Hid (u13.heap.size ≤ g11) := Nat.le_trans (Nat.le_of_eq HN.out.symm) (Nat.le_trans HX.out.size hg)
              have N11_12 : Hid (g11 ≠ g12) := (Nat.ne_of_lt (Nat.lt_of_lt_of_le K12.out.lt hg)).symm
              replace HX := Lib.hid (HX.out.trans (Turn.ofBelow hb))
              replace K12 := Lib.hid (K12.out.ext hb)
              have K11 := Lib.hid hk
              clear hk hg hb
              refine stepS_call (o := ⟨_, _, _, _, _, _⟩) rfl (by rfl) (fun K hK => ?_)
              go_simp
              refine (CB.out u18).mono ?_
              rintro e u19 ⟨rfl, hb⟩
              refine hK _ _ (Turn.ofBelow hb) ?_
              clear hK K
              replace HX := Lib.hid (HX.out.trans (Turn.ofBelow hb))
              replace K12 := Lib.hid (K12.out.ext hb)
              replace K11 := Lib.hid (K11.out.ext hb)
              clear hb
              refine stepS_call (o := ⟨_, _, _, _, _, _⟩) rfl (by rfl) (fun K hK => ?_)
              go_simp
              refine (CH.out u19).mono ?_
              rintro e u20 ⟨rfl, hb⟩
              refine hK _ _ (Turn.ofBelow hb) ?_
              clear hK K
              replace HX := Lib.hid (HX.out.trans (Turn.ofBelow hb))
              replace K12 := Lib.hid (K12.out.ext hb)
              replace K11 := Lib.hid (K11.out.ext hb)
              clear hb
              refine stepS_call (o := ⟨_, _, _, _, _, _⟩) rfl (by rfl) (fun K hK => ?_)
              refine wp_store_sc TS (.tmp 11) (.tmp 51) rfl g11 L _ TS (by rfl) (by rfl) arr_TS K11.out ?_
              intro u21 hk ht _
              have hX : Turn (fun i => u13.heap.size ≤ i) u20 u21 := ht.mono (fun i hi _ => by subst hi; exact G11.out)
              refine hK _ _ hX ?_
              clear hK K
              simp only [Act.put]
              replace HX := Lib.hid (HX.out.trans hX)
              replace K12 := Lib.hid (K12.out.turn ht (fun e => N11_12.out e.symm))
              replace K11 := Lib.hid hk
              clear hk ht hX
              refine stepS_call (o := ⟨_, _, _, _, _, _⟩) rfl (by rfl) (fun K hK => ?_)
              refine wp_store_sc TS (.tmp 12) (.tmp 55) rfl g12 H _ TS (by rfl) (by rfl) arr_TS K12.out ?_
              intro u22 hk ht _
              have hX : Turn (fun i => u13.heap.size ≤ i) u21 u22 := ht.mono (fun i hi _ => by subst hi; exact G12.out)
              refine hK _ _ hX ?_
              clear hK K
              simp only [Act.put]
              replace HX := Lib.hid (HX.out.trans hX)
              replace K12 := Lib.hid hk
              replace K11 := Lib.hid (K11.out.turn ht (fun e => N11_12.out e))
              clear hk ht hX
              refine wpGs_done ?_
              go_wp2
              go_meet
              exact ⟨g11, g12, rfl, rfl, ⟨K11.out, K12.out⟩, Below.trans HD.out (HX.out.below (B := u13.heap.size) (Nat.le_of_eq HN.out.symm) (fun i hi => hi))⟩
        · skip
          refine stepS_call (o := ⟨_, _, _, _, _, _⟩) rfl (by rfl) (fun K hK => ?_)
          refine wp_alloc_arr TS rfl arrz_TS ?_
          intro g11 u16 hg hk hb
          refine hK _ _ (Turn.ofBelow hb) ?_
          clear hK K
          simp only [Act.put, List.setIfInBounds_toArray, List.set_cons_zero, List.set_cons_succ]
          have G11 : Hid (u13.heap.size ≤ g11) := Nat.le_trans (Nat.le_of_eq HN.out.symm) (Nat.le_trans HX.out.size hg)
          replace HX := Lib.hid (HX.out.trans (Turn.ofBelow hb))
          have K11 := Lib.hid hk
          clear hk hg hb
          refine ⟨?_, ?_⟩
          · skip
            refine stepS_call (o := ⟨_, _, _, _, _, _⟩) rfl (by rfl) (fun K hK => ?_)
            go_simp
            refine (CL.out u16).mono ?_
            rintro e u17 ⟨rfl, hb⟩
            refine hK _ _ (Turn.ofBelow hb) ?_
            clear hK K
            replace HX := Lib.hid (HX.out.trans (Turn.ofBelow hb))
            replace K11 := Lib.hid (K11.out.ext hb)
            clear hb
            refine ⟨?_, ?_⟩
            · skip
              refine stepS_call (o := ⟨_, _, _, _, _, _⟩) rfl (by rfl) (fun K hK => ?_)
              go_simp
              refine (CB.out u17).mono ?_
              rintro e u18 ⟨rfl, hb⟩
              refine hK _ _ (Turn.ofBelow hb) ?_
              clear hK K
              replace HX := Lib.hid (HX.out.trans (Turn.ofBelow hb))
              replace K11 := Lib.hid (K11.out.ext hb)
              clear hb
              refine ⟨?_, ?_⟩
              · skip
                refine stepS_call (o := ⟨_, _, _, _, _, _⟩) rfl (by rfl) (fun K hK => ?_)
                go_simp
                refine (CH.out u18).mono ?_
                rintro e u19 ⟨rfl, hb⟩
                refine hK _ _ (Turn.ofBelow hb) ?_
                clear hK K
                replace HX := Lib.hid (HX.out.trans (Turn.ofBelow hb))
                replace K11 := Lib.hid (K11.out.ext hb)
                clear hb
                refine stepS_call (o := ⟨_, _, _, _, _, _⟩) rfl (by rfl) (fun K hK => ?_)
                refine wp_alloc_arr TS rfl arrz_TS ?_
                intro g12 u20 hg hk hb
                refine hK _ _ (Turn.ofBelow hb) ?_
                clear hK K
                simp only [Act.put, List.setIfInBounds_toArray, List.set_cons_zero, List.set_cons_succ]
                have G12 : Hid (u13.heap.size ≤ g12) := Nat.le_trans (Nat.le_of_eq HN.out.symm) (Nat.le_trans HX.out.size hg)
                have N12_11 : Hid (g12 ≠ g11) := (Nat.ne_of_lt (Nat.lt_of_lt_of_le K11.out.lt hg)).symm
                replace HX := Lib.hid (HX.out.trans (Turn.ofBelow hb))
                replace K11 := Lib.hid (K11.out.ext hb)
                have K12 := Lib.hid hk
                clear hk hg hb
                refine stepS_call (o := ⟨_, _, _, _, _, _⟩) rfl (by rfl) (fun K hK => ?_)
                refine wp_store_sc TS (.tmp 11) (.tmp 51) rfl g11 L _ TS (by rfl) (by rfl) arr_TS K11.out ?_
                intro u21 hk ht _
                have hX : Turn (fun i => u13.heap.size ≤ i) u20 u21 := ht.mono (fun i hi _ => by subst hi; exact G11.out)
                refine hK _ _ hX ?_
                clear hK K
                simp only [Act.put]
                replace HX := Lib.hid (HX.out.trans hX)
                replace K11 := Lib.hid hk
                replace K12 := Lib.hid (K12.out.turn ht (fun e => N12_11.out e))
                clear hk ht hX
                refine stepS_call (o := ⟨_, _, _, _, _, _⟩) rfl (by rfl) (fun K hK => ?_)
                refine wp_store_sc TS (.tmp 12) (.tmp 55) rfl g12 H _ TS (by rfl) (by rfl) arr_TS K12.out ?_
                intro u22 hk ht _
                have hX : Turn (fun i => u13.heap.size ≤ i) u21 u22 := ht.mono (fun i hi _ => by subst hi; exact G12.out)
                refine hK _ _ hX ?_
                clear hK K
                simp only [Act.put]
                replace HX := Lib.hid (HX.out.trans hX)
                replace K11 := Lib.hid (K11.out.turn ht (fun e => N12_11.out e.symm))
                replace K12 := Lib.hid hk
                clear hk ht hX
                refine wpGs_done ?_
                go_wp2
                go_meet
                exact ⟨g11, g12, rfl, rfl, ⟨K11.out, K12.out⟩, Below.trans HD.out (HX.out.below (B := u13.heap.size) (Nat.le_of_eq HN.out.symm) (fun i hi => hi))⟩
              · skip
                refine stepS_call (o := ⟨_, _, _, _, _, _⟩) rfl (by rfl) (fun K hK => ?_)
                refine wp_alloc_arr TS rfl arrz_TS ?_
                intro g12 u19 hg hk hb
                refine hK _ _ (Turn.ofBelow hb) ?_
                clear hK K
                simp only [Act.put, List.setIfInBounds_toArray, List.set_cons_zero, List.set_cons_succ]
                have G12 : Hid (u13.heap.size ≤ g12) := Nat.le_trans (Nat.le_of_eq HN.out.symm) (Nat.le_trans HX.out.size hg)
                have N12_11 : Hid (g12 ≠ g11) := (Nat.ne_of_lt (Nat.lt_of_lt_of_le K11.out.lt hg)).symm
                replace HX := Lib.hid (HX.out.trans (Turn.ofBelow hb))
                replace K11 := Lib.hid (K11.out.ext hb)
                have K12 := Lib.hid hk
                clear hk hg hb
                refine stepS_call (o := ⟨_, _, _, _, _, _⟩) rfl (by rfl) (fun K hK => ?_)
                go_simp
                refine (CH.out u19).mono ?_
                rintro e u20 ⟨rfl, hb⟩
                refine hK _ _ (Turn.ofBelow hb) ?_
                clear hK K
                replace HX := Lib.hid (HX.out.trans (Turn.ofBelow hb))
                replace K11 := Lib.hid (K11.out.ext hb)
                replace K12 := Lib.hid (K12.out.ext hb)
                clear hb
                refine stepS_call (o := ⟨_, _, _, _, _, _⟩) rfl (by rfl) (fun K hK => ?_)
                refine wp_store_sc TS (.tmp 11) (.tmp 51) rfl g11 L _ TS (by rfl) (by rfl) arr_TS K11.out ?_
                intro u21 hk ht _
                have hX : Turn (fun i => u13.heap.size ≤ i) u20 u21 := ht.mono (fun i hi _ => by subst hi; exact G11.out)
                refine hK _ _ hX ?_
                clear hK K
                simp only [Act.put]
                replace HX := Lib.hid (HX.out.trans hX)
                replace K11 := Lib.hid hk
                replace K12 := Lib.hid (K12.out.turn ht (fun e => N12_11.out e))
                clear hk ht hX
                refine stepS_call (o := ⟨_, _, _, _, _, _⟩) rfl (by rfl) (fun K hK => ?_)
                refine wp_store_sc TS (.tmp 12) (.tmp 55) rfl g12 H _ TS (by rfl) (by rfl) arr_TS K12.out ?_
                intro u22 hk ht _
                have hX : Turn (fun i => u13.heap.size ≤ i) u21 u22 := ht.mono (fun i hi _ => by subst hi; exact G12.out)
                refine hK _ _ hX ?_
                clear hK K
                simp only [Act.put]
                replace HX := Lib.hid (HX.out.trans hX)
                replace K11 := Lib.hid (K11.out.turn ht (fun e => N12_11.out e.symm))
                replace K12 := Lib.hid hk
                clear hk ht hX
                refine wpGs_done ?_
                go_wp2
                go_meet
                exact ⟨g11, g12, rfl, rfl, ⟨K11.out, K12.out⟩, Below.trans HD.out (HX.out.below (B := u13.heap.size) (Nat.le_of_eq HN.out.symm) (fun i hi => hi))⟩
            · skip
              refine stepS_call (o := ⟨_, _, _, _, _, _⟩) rfl (by rfl) (fun K hK => ?_)
              refine wp_alloc_arr TS rfl arrz_TS ?_
              intro g12 u18 hg hk hb
              refine hK _ _ (Turn.ofBelow hb) ?_
              clear hK K
              simp only [Act.put, List.setIfInBounds_toArray, List.set_cons_zero, List.set_cons_succ]
              have G12 : Hid (u13.heap.size ≤ g12) := Nat.le_trans (Nat.le_of_eq HN.out.symm) (Nat.le_trans HX.out.size hg)
              have N12_11 : Hid (g12 ≠ g11) := (Nat.ne_of_lt (Nat.lt_of_lt_of_le K11.out.lt hg)).symm
              replace HX := Lib.hid (HX.out.trans (Turn.ofBelow hb))
              replace K11 := Lib.hid (K11.out.ext hb)
              have K12 := Lib.hid hk
              clear hk hg hb
              refine stepS_call (o := ⟨_, _, _, _, _, _⟩) rfl (by rfl) (fun K hK => ?_)
              go_simp
              refine (CB.out u18).mono ?_
              rintro e u19 ⟨rfl, hb⟩
              refine hK _ _ (Turn.ofBelow hb) ?_
              clear hK K
              replace HX := Lib.hid (HX.out.trans (Turn.ofBelow hb))
              replace K11 := Lib.hid (K11.out.ext hb)
              replace K12 := Lib.hid (K12.out.ext hb)
              clear hb
              refine stepS_call (o := ⟨_, _, _, _, _, _⟩) rfl (by rfl) (fun K hK => ?_)
              go_simp
              refine (CH.out u19).mono ?_
              rintro e u20 ⟨rfl, hb⟩
              refine hK _ _ (Turn.ofBelow hb) ?_
              clear hK K
              replace HX := Lib.hid (HX.out.trans (Turn.ofBelow hb))
              replace K11 := Lib.hid (K11.out.ext hb)
              replace K12 := Lib.hid (K12.out.ext hb)
              clear hb
              refine stepS_call (o := ⟨_, _, _, _, _, _⟩) rfl (by rfl) (fun K hK => ?_)
              refine wp_store_sc TS (.tmp 11) (.tmp 51) rfl g11 L _ TS (by rfl) (by rfl) arr_TS K11.out ?_
              intro u21 hk ht _
              have hX : Turn (fun i => u13.heap.size ≤ i) u20 u21 := ht.mono (fun i hi _ => by subst hi; exact G11.out)
              refine hK _ _ hX ?_
              clear hK K
              simp only [Act.put]
              replace HX := Lib.hid (HX.out.trans hX)
              replace K11 := Lib.hid hk
              replace K12 := Lib.hid (K12.out.turn ht (fun e => N12_11.out e))
              clear hk ht hX
              refine stepS_call (o := ⟨_, _, _, _, _, _⟩) rfl (by rfl) (fun K hK => ?_)
              refine wp_store_sc TS (.tmp 12) (.tmp 55) rfl g12 H _ TS (by rfl) (by rfl) arr_TS K12.out ?_
              intro u22 hk ht _
              have hX : Turn (fun i => u13.heap.size ≤ i) u21 u22 := ht.mono (fun i hi _ => by subst hi; exact G12.out)
              refine hK _ _ hX ?_
              clear hK K
              simp only [Act.put]
              replace HX := Lib.hid (HX.out.trans hX)
              replace K11 := Lib.hid (K11.out.turn ht (fun e => N12_11.out e.symm))
              replace K12 := Lib.hid hk
              clear hk ht hX
              refine wpGs_done ?_
              go_wp2
              go_meet
              exact ⟨g11, g12, rfl, rfl, ⟨K11.out, K12.out⟩, Below.trans HD.out (HX.out.below (B := u13.heap.size) (Nat.le_of_eq HN.out.symm) (fun i hi => hi))⟩
          · skip
            refine stepS_call (o := ⟨_, _, _, _, _, _⟩) rfl (by rfl) (fun K hK => ?_)
            refine wp_alloc_arr TS rfl arrz_TS ?_
            intro g12 u17 hg hk hb
            refine hK _ _ (Turn.ofBelow hb) ?_
            clear hK K
            simp only [Act.put, List.setIfInBounds_toArray, List.set_cons_zero, List.set_cons_succ]
            have G12 : Hid (u13.heap.size ≤ g12) := Nat.le_trans (Nat.le_of_eq HN.out.symm) (Nat.le_trans HX.out.size hg)
            have N12_11 : Hid (g12 ≠ g11) := (Nat.ne_of_lt (Nat.lt_of_lt_of_le K11.out.lt hg)).symm
            replace HX := Lib.hid (HX.out.trans (Turn.ofBelow hb))
            replace K11 := Lib.hid (K11.out.ext hb)
            have K12 := Lib.hid hk
            clear hk hg hb
            refine stepS_call (o := ⟨_, _, _, _, _, _⟩) rfl (by rfl) (fun K hK => ?_)
            go_simp
            refine (CL.out u17).mono ?_
            rintro e u18 ⟨rfl, hb⟩
            refine hK _ _ (Turn.ofBelow hb) ?_
            clear hK K
            replace HX := Lib.hid (HX.out.trans (Turn.ofBelow hb))
            replace K11 := Lib.hid (K11.out.ext hb)
            replace K12 := Lib.hid (K12.out.ext hb)
            clear hb
            refine stepS_call (o := ⟨_, _, _, _, _, _⟩) rfl (by rfl) (fun K hK => ?_)
            go_simp
            refine (CB.out u18).mono ?_
            rintro e u19 ⟨rfl, hb⟩
            refine hK _ _ (Turn.ofBelow hb) ?_
            clear hK K
            replace HX := Lib.hid (HX.out.trans (Turn.ofBelow hb))
            replace K11 := Lib.hid (K11.out.ext hb)
            replace K12 := Lib.hid (K12.out.ext hb)
            clear hb
            refine stepS_call (o := ⟨_, _, _, _, _, _⟩) rfl (by rfl) (fun K hK => ?_)
            go_simp
            refine (CH.out u19).mono ?_
            rintro e u20 ⟨rfl, hb⟩
            refine hK _ _ (Turn.ofBelow hb) ?_
            clear hK K
            replace HX := Lib.hid (HX.out.trans (Turn.ofBelow hb))
            replace K11 := Lib.hid (K11.out.ext hb)
            replace K12 := Lib.hid (K12.out.ext hb)
            clear hb
            refine stepS_call (o := ⟨_, _, _, _, _, _⟩) rfl (by rfl) (fun K hK => ?_)
            refine wp_store_sc TS (.tmp 11) (.tmp 51) rfl g11 L _ TS (by rfl) (by rfl) arr_TS K11.out ?_
            intro u21 hk ht _
            have hX : Turn (fun i => u13.heap.size ≤ i) u20 u21 := ht.mono (fun i hi _ => by subst hi; exact G11.out)
            refine hK _ _ hX ?_
            clear hK K
            simp only [Act.put]
            replace HX := Lib.hid (HX.out.trans hX)
            replace K11 := Lib.hid hk
            replace K12 := Lib.hid (K12.out.turn ht (fun e => N12_11.out e))
            clear hk ht hX
            refine stepS_call (o := ⟨_, _, _, _, _, _⟩) rfl (by rfl) (fun K hK => ?_)
            refine wp_store_sc TS (.tmp 12) (.tmp 55) rfl g12 H _ TS (by rfl) (by rfl) arr_TS K12.out ?_
            intro u22 hk ht _
            have hX : Turn (fun i => u13.heap.size ≤ i) u21 u22 := ht.mono (fun i hi _ => by subst hi; exact G12.out)
            refine hK _ _ hX ?_
            clear hK K
            simp only [Act.put]
            replace HX := Lib.hid (HX.out.trans hX)
            replace K11 := Lib.hid (K11.out.turn ht (fun e => N12_11.out e.symm))
            replace K12 := Lib.hid hk
            clear hk ht hX
            refine wpGs_done ?_
            go_wp2
            go_meet
            exact ⟨g11, g12, rfl, rfl, ⟨K11.out, K12.out⟩, Below.trans HD.out (HX.out.below (B := u13.heap.size) (Nat.le_of_eq HN.out.symm) (fun i hi => hi))⟩
        · skip
          refine stepS_call (o := ⟨_, _, _, _, _, _⟩) rfl (by rfl) (fun K hK => ?_)
          refine wp_alloc_arr TS rfl arrz_TS ?_
          intro g12 u16 hg hk hb
          refine hK _ _ (Turn.ofBelow hb) ?_
          clear hK K
          simp only [Act.put, List.setIfInBounds_toArray, List.set_cons_zero, List.set_cons_succ]
          have G12 : Hid (u13.heap.size ≤ g12) := Nat.le_trans (Nat.le_of_eq HN.out.symm) (Nat.le_trans HX.out.size hg)
          replace HX := Lib.hid (HX.out.trans (Turn.ofBelow hb))
          have K12 := Lib.hid hk
          clear hk hg hb
          refine ⟨?_, ?_⟩
          · skip
            refine stepS_call (o := ⟨_, _, _, _, _, _⟩) rfl (by rfl) (fun K hK => ?_)
            go_simp
            refine (CL.out u16).mono ?_
            rintro e u17 ⟨rfl, hb⟩
            refine hK _ _ (Turn.ofBelow hb) ?_
            clear hK K
            replace HX := Lib.hid (HX.out.trans (Turn.ofBelow hb))
            replace K12 := Lib.hid (K12.out.ext hb)
            clear hb
            refine ⟨?_, ?_⟩
            · skip
              refine stepS_call (o := ⟨_, _, _, _, _, _⟩) rfl (by rfl) (fun K hK => ?_)
              go_simp
              refine (CB.out u17).mono ?_
              rintro e u18 ⟨rfl, hb⟩
              refine hK _ _ (Turn.ofBelow hb) ?_
              clear hK K
              replace HX := Lib.hid (HX.out.trans (Turn.ofBelow hb))
              replace K12 := Lib.hid (K12.out.ext hb)
              clear hb
              refine ⟨?_, ?_⟩
              · skip
                refine stepS_call (o := ⟨_, _, _, _, _, _⟩) rfl (by rfl) (fun K hK => ?_)
                go_simp
                refine (CH.out u18).mono ?_
                rintro e u19 ⟨rfl, hb⟩
                refine hK _ _ (Turn.ofBelow hb) ?_
                clear hK K
                replace HX := Lib.hid (HX.out.trans (Turn.ofBelow hb))
                replace K12 := Lib.hid (K12.out.ext hb)
                clear hb
                refine stepS_call (o := ⟨_, _, _, _, _, _⟩) rfl (by rfl) (fun K hK => ?_)
                refine wp_alloc_arr TS rfl arrz_TS ?_
                intro g11 u20 hg hk hb
                refine hK _ _ (Turn.ofBelow hb) ?_
                clear hK K
                simp only [Act.put, List.setIfInBounds_toArray, List.set_cons_zero, List.set_cons_succ]
                have G11 : Hid (u13.heap.size ≤ g11) := Nat.le_trans (Nat.le_of_eq HN.out.symm) (Nat.le_trans HX.out.size hg)
                have N11_12 : Hid (g11 ≠ g12) := (Nat.ne_of_lt (Nat.lt_of_lt_of_le K12.out.lt hg)).symm
                replace HX := Lib.hid (HX.out.trans (Turn.ofBelow hb))
                replace K12 := Lib.hid (K12.out.ext hb)
                have K11 := Lib.hid hk
                clear hk hg hb
                refine stepS_call (o := ⟨_, _, _, _, _, _⟩) rfl (by rfl) (fun K hK => ?_)
                refine wp_store_sc TS (.tmp 11) (.tmp 51) rfl g11 L _ TS (by rfl) (by rfl) arr_TS K11.out ?_
                intro u21 hk ht _
                have hX : Turn (fun i => u13.heap.size ≤ i) u20 u21 := ht.mono (fun i hi _ => by subst hi; exact G11.out)
                refine hK _ _ hX ?_
                clear hK K
                simp only [Act.put]
                replace HX := Lib.hid (HX.out.trans hX)
                replace K12 := Lib.hid (K12.out.turn ht (fun e => N11_12.out e.symm))
                replace K11 := Lib.hid hk
                clear hk ht hX
                refine stepS_call (o := ⟨_, _, _, _, _, _⟩) rfl (by rfl) (fun K hK => ?_)
                refine wp_store_sc TS (.tmp 12) (.tmp 55) rfl g12 H _ TS (by rfl) (by rfl) arr_TS K12.out ?_
                intro u22 hk ht _
                have hX : Turn (fun i => u13.heap.size ≤ i) u21 u22 := ht.mono (fun i hi _ => by subst hi; exact G12.out)
                refine hK _ _ hX ?_
                clear hK K
                simp only [Act.put]
                replace HX := Lib.hid (HX.out.trans hX)
                replace K12 := Lib.hid hk
                replace K11 := Lib.hid (K11.out.turn ht (fun e => N11_12.out e))
                clear hk ht hX
                refine wpGs_done ?_
                go_wp2
                go_meet
                exact ⟨g11, g12, rfl, rfl, ⟨K11.out, K12.out⟩, Below.trans HD.out (HX.out.below (B := u13.heap.size) (Nat.le_of_eq HN.out.symm) (fun i hi => hi))⟩
              · skip
                refine stepS_call (o := ⟨_, _, _, _, _, _⟩) rfl (by rfl) (fun K hK => ?_)
                refine wp_alloc_arr TS rfl arrz_TS ?_
                intro g11 u19 hg hk hb
                refine hK _ _ (Turn.ofBelow hb) ?_
                clear hK K
                simp only [Act.put, List.setIfInBounds_toArray, List.set_cons_zero, List.set_cons_succ]
                have G11 : Hid (u13.heap.size ≤ g11) := Nat.le_trans (Nat.le_of_eq HN.out.symm) (Nat.le_trans HX.out.size hg)
                have N11_12 : Hid (g11 ≠ g12) := (Nat.ne_of_lt (Nat.lt_of_lt_of_le K12.out.lt hg)).symm
                replace HX := Lib.hid (HX.out.trans (Turn.ofBelow hb))
                replace K12 := Lib.hid (K12.out.ext hb)
                have K11 := Lib.hid hk
                clear hk hg hb
                refine stepS_call (o := ⟨_, _, _, _, _, _⟩) rfl (by rfl) (fun K hK => ?_)
                go_simp
                refine (CH.out u19).mono ?_
                rintro e u20 ⟨rfl, hb⟩
                refine hK _ _ (Turn.ofBelow hb) ?_
                clear hK K
                replace HX := Lib.hid (HX.out.trans (Turn.ofBelow hb))
                replace K12 := Lib.hid (K12.out.ext hb)
                replace K11 := Lib.hid (K11.out.ext hb)
                clear hb
                refine stepS_call (o := ⟨_, _, _, _, _, _⟩) rfl (by rfl) (fun K hK => ?_)
                refine wp_store_sc TS (.tmp 11) (.tmp 51) rfl g11 L _ TS (by rfl) (by rfl) arr_TS K11.out ?_
                intro u21 hk ht _
                have hX : Turn (fun i => u13.heap.size ≤ i) u20 u21 := ht.mono (fun i hi _ => by subst hi; exact G11.out)
                refine hK _ _ hX ?_
                clear hK K
                simp only [Act.put]
                replace HX := Lib.hid (HX.out.trans hX)
                replace K12 := Lib.hid (K12.out.turn ht (fun e => N11_12.out e.symm))
                replace K11 := Lib.hid hk
                clear hk ht hX
                refine stepS_call (o := ⟨_, _, _, _, _, _⟩) rfl (by rfl) (fun K hK => ?_)
                refine wp_store_sc TS (.tmp 12) (.tmp 55) rfl g12 H _ TS (by rfl) (by rfl) arr_TS K12.out ?_
                intro u22 hk ht _
                have hX : Turn (fun i => u13.heap.size ≤ i) u21 u22 := ht.mono (fun i hi _ => by subst hi; exact G12.out)
                refine hK _ _ hX ?_
                clear hK K
                simp only [Act.put]
                replace HX := Lib.hid (HX.out.trans hX)
                replace K12 := Lib.hid hk
                replace K11 := Lib.hid (K11.out.turn ht (fun e => N11_12.out e))
                clear hk ht hX
                refine wpGs_done ?_
                go_wp2
                go_meet
                exact ⟨g11, g12, rfl, rfl, ⟨K11.out, K12.out⟩, Below.trans HD.out (HX.out.below (B := u13.heap.size) (Nat.le_of_eq HN.out.symm) (fun i hi => hi))⟩
            · skip
              refine stepS_call (o := ⟨_, _, _, _, _, _⟩) rfl (by rfl) (fun K hK => ?_)
              refine wp_alloc_arr TS rfl arrz_TS ?_
              intro g11 u18 hg hk hb
              refine hK _ _ (Turn.ofBelow hb) ?_
              clear hK K
              simp only [Act.put, List.setIfInBounds_toArray, List.set_cons_zero, List.set_cons_succ]
              have G11 : Hid (u13.heap.size ≤ g11) := Nat.le_trans (Nat.le_of_eq HN.out.symm) (Nat.le_trans HX.out.size hg)
              have N11_12 : Hid (g11 ≠ g12) := (Nat.ne_of_lt (Nat.lt_of_lt_of_le K12.out.lt hg)).symm
              replace HX := Lib.hid (HX.out.trans (Turn.ofBelow hb))
              replace K12 := Lib.hid (K12.out.ext hb)
              have K11 := Lib.hid hk
              clear hk hg hb
              refine stepS_call (o := ⟨_, _, _, _, _, _⟩) rfl (by rfl) (fun K hK => ?_)
              go_simp
              refine (CB.out u18).mono ?_
              rintro e u19 ⟨rfl, hb⟩
              refine hK _ _ (Turn.ofBelow hb) ?_
              clear hK K
              replace HX := Lib.hid (HX.out.trans (Turn.ofBelow hb))
              replace K12 := Lib.hid (K12.out.ext hb)
              replace K11 := Lib.hid (K11.out.ext hb)
              clear hb
              refine stepS_call (o := ⟨_, _, _, _, _, _⟩) rfl (by rfl) (fun K hK => ?_)
              go_simp
              refine (CH.out u19).mono ?_
              rintro e u20 ⟨rfl, hb⟩
              refine hK _ _ (Turn.ofBelow hb) ?_
              clear hK K
              replace HX := Lib.hid (HX.out.trans (Turn.ofBelow hb))
              replace K12 := Lib.hid (K12.out.ext hb)
              replace K11 := Lib.hid (K11.out.ext hb)
              clear hb
              refine stepS_call (o := ⟨_, _, _, _, _, _⟩) rfl (by rfl) (fun K hK => ?_)
              refine wp_store_sc TS (.tmp 11) (.tmp 51) rfl g11 L _ TS (by rfl) (by rfl) arr_TS K11.out ?_
              intro u21 hk ht _
              have hX : Turn (fun i => u13.heap.size ≤ i) u20 u21 := ht.mono (fun i hi _ => by subst hi; exact G11.out)
              refine hK _ _ hX ?_
              clear hK K
              simp only [Act.put]
              replace HX := Lib.hid (HX.out.trans hX)
              replace K12 := Lib.hid (K12.out.turn ht (fun e => N11_12.out e.symm))
              replace K11 := Lib.hid hk
              clear hk ht hX
              refine stepS_call (o := ⟨_, _, _, _, _, _⟩) rfl (by rfl) (fun K hK => ?_)
              refine wp_store_sc TS (.tmp 12) (.tmp 55) rfl g12 H _ TS (by rfl) (by rfl) arr_TS K12.out ?_
              intro u22 hk ht _
              have hX : Turn (fun i => u13.heap.size ≤ i) u21 u22 := ht.mono (fun i hi _ => by subst hi; exact G12.out)
              refine hK _ _ hX ?_
              clear hK K
              simp only [Act.put]
              replace HX := Lib.hid (HX.out.trans hX)
              replace K12 := Lib.hid hk
              replace K11 := Lib.hid (K11.out.turn ht (fun e => N11_12.out e))
              clear hk ht hX
              refine wpGs_done ?_
              go_wp2
              go_meet
              exact ⟨g11, g12, rfl, rfl, ⟨K11.out, K12.out⟩, Below.trans HD.out (HX.out.below (B := u13.heap.size) (Nat.le_of_eq HN.out.symm) (fun i hi => hi))⟩
          · skip
            refine stepS_call (o := ⟨_, _, _, _, _, _⟩) rfl (by rfl) (fun K hK => ?_)
            refine wp_alloc_arr TS rfl arrz_TS ?_
            intro g11 u17 hg hk hb
            refine hK _ _ (Turn.ofBelow hb) ?_
            clear hK K
            simp only [Act.put, List.setIfInBounds_toArray, List.set_cons_zero, List.set_cons_succ]
            have G11 : Hid (u13.heap.size ≤ g11) := Nat.le_trans (Nat.le_of_eq HN.out.symm) (Nat.le_trans HX.out.size hg)
            have N11_12 : Hid (g11 ≠ g12) := (Nat.ne_of_lt (Nat.lt_of_lt_of_le K12.out.lt hg)).symm
            replace HX := Lib.hid (HX.out.trans (Turn.ofBelow hb))
            replace K12 := Lib.hid (K12.out.ext hb)
            have K11 := Lib.hid hk
            clear hk hg hb
            refine stepS_call (o := ⟨_, _, _, _, _, _⟩) rfl (by rfl) (fun K hK => ?_)
            go_simp
            refine (CL.out u17).mono ?_
            rintro e u18 ⟨rfl, hb⟩
            refine hK _ _ (Turn.ofBelow hb) ?_
            clear hK K
            replace HX := Lib.hid (HX.out.trans (Turn.ofBelow hb))
            replace K12 := Lib.hid (K12.out.ext hb)
            replace K11 := Lib.hid (K11.out.ext hb)
            clear hb
            refine stepS_call (o := ⟨_, _, _, _, _, _⟩) rfl (by rfl) (fun K hK => ?_)
            go_simp
            refine (CB.out u18).mono ?_
            rintro e u19 ⟨rfl, hb⟩
            refine hK _ _ (Turn.ofBelow hb) ?_
            clear hK K
            replace HX := Lib.hid (HX.out.trans (Turn.ofBelow hb))
            replace K12 := Lib.hid (K12.out.ext hb)
            replace K11 := Lib.hid (K11.out.ext hb)
            clear hb
            refine stepS_call (o := ⟨_, _, _, _, _, _⟩) rfl (by rfl) (fun K hK => ?_)
            go_simp
            refine (CH.out u19).mono ?_
            rintro e u20 ⟨rfl, hb⟩
            refine hK _ _ (Turn.ofBelow hb) ?_
            clear hK K
            replace HX := Lib.hid (HX.out.trans (Turn.ofBelow hb))
            replace K12 := Lib.hid (K12.out.ext hb)
            replace K11 := Lib.hid (K11.out.ext hb)
            clear hb
            refine stepS_call (o := ⟨_, _, _, _, _, _⟩) rfl (by rfl) (fun K hK => ?_)
            refine wp_store_sc TS (.tmp 11) (.tmp 51) rfl g11 L _ TS (by rfl) (by rfl) arr_TS K11.out ?_
            intro u21 hk ht _
            have hX : Turn (fun i => u13.heap.size ≤ i) u20 u21 := ht.mono (fun i hi _ => by subst hi; exact G11.out)
            refine hK _ _ hX ?_
            clear hK K
            simp only [Act.put]
            replace HX := Lib.hid (HX.out.trans hX)
            replace K12 := Lib.hid (K12.out.turn ht (fun e => N11_12.out e.symm))
            replace K11 := Lib.hid hk
            clear hk ht hX
            refine stepS_call (o := ⟨_, _, _, _, _, _⟩) rfl (by rfl) (fun K hK => ?_)
            refine wp_store_sc TS (.tmp 12) (.tmp 55) rfl g12 H _ TS (by rfl) (by rfl) arr_TS K12.out ?_
            intro u22 hk ht _
            have hX : Turn (fun i => u13.heap.size ≤ i) u21 u22 := ht.mono (fun i hi _ => by subst hi; exact G12.out)
            refine hK _ _ hX ?_
            clear hK K
            simp only [Act.put]
            replace HX := Lib.hid (HX.out.trans hX)
            replace K12 := Lib.hid hk
            replace K11 := Lib.hid (K11.out.turn ht (fun e => N11_12.out e))
            clear hk ht hX
            refine wpGs_done ?_
            go_wp2
            go_meet
            exact ⟨g11, g12, rfl, rfl, ⟨K11.out, K12.out⟩, Below.trans HD.out (HX.out.below (B := u13.heap.size) (Nat.le_of_eq HN.out.symm) (fun i hi => hi))⟩
      · skip
        refine stepS_call (o := ⟨_, _, _, _, _, _⟩) rfl (by rfl) (fun K hK => ?_)
        refine wp_alloc_arr TS rfl arrz_TS ?_
        intro g11 u15 hg hk hb
        refine hK _ _ (Turn.ofBelow hb) ?_
        clear hK K
        simp only [Act.put, List.setIfInBounds_toArray, List.set_cons_zero, List.set_cons_succ]
        have G11 : Hid (u13.heap.size ≤ g11) := Nat.le_trans (Nat.le_of_eq HN.out.symm) (Nat.le_trans HX.out.size hg)
        replace HX := Lib.hid (HX.out.trans (Turn.ofBelow hb))
        have K11 := Lib.hid hk
        clear hk hg hb
        refine ⟨?_, ?_⟩
        · skip
          refine stepS_call (o := ⟨_, _, _, _, _, _⟩) rfl (by rfl) (fun K hK => ?_)
          go_simp
          refine (CB.out u15).mono ?_
          rintro e u16 ⟨rfl, hb⟩
          refine hK _ _ (Turn.ofBelow hb) ?_
          clear hK K
          replace HX := Lib.hid (HX.out.trans (Turn.ofBelow hb))
          replace K11 := Lib.hid (K11.out.ext hb)
          clear hb
          refine ⟨?_, ?_⟩
          · skip
            refine stepS_call (o := ⟨_, _, _, _, _, _⟩) rfl (by rfl) (fun K hK => ?_)
            go_simp
            refine (CL.out u16).mono ?_
            rintro e u17 ⟨rfl, hb⟩
            refine hK _ _ (Turn.ofBelow hb) ?_
            clear hK K
            replace HX := Lib.hid (HX.out.trans (Turn.ofBelow hb))
            replace K11 := Lib.hid (K11.out.ext hb)
            clear hb
            refine ⟨?_, ?_⟩
            · skip
              refine stepS_call (o := ⟨_, _, _, _, _, _⟩) rfl (by rfl) (fun K hK => ?_)
              go_simp
              refine (CB.out u17).mono ?_
              rintro e u18 ⟨rfl, hb⟩
              refine hK _ _ (Turn.ofBelow hb) ?_
              clear hK K
              replace HX := Lib.hid (HX.out.trans (Turn.ofBelow hb))
              replace K11 := Lib.hid (K11.out.ext hb)
              clear hb
              refine ⟨?_, ?_⟩
              · skip
                refine stepS_call (o := ⟨_, _, _, _, _, _⟩) rfl (by rfl) (fun K hK => ?_)
                go_simp
                refine (CH.out u18).mono ?_
                rintro e u19 ⟨rfl, hb⟩
                refine hK _ _ (Turn.ofBelow hb) ?_
                clear hK K
                replace HX := Lib.hid (HX.out.trans (Turn.ofBelow hb))
                replace K11 := Lib.hid (K11.out.ext hb)
                clear hb
                refine stepS_call (o := ⟨_, _, _, _, _, _⟩) rfl (by rfl) (fun K hK => ?_)
                refine wp_alloc_arr TS rfl arrz_TS ?_
                intro g12 u20 hg hk hb
                refine hK _ _ (Turn.ofBelow hb) ?_
                clear hK K
                simp only [Act.put, List.setIfInBounds_toArray, List.set_cons_zero, List.set_cons_succ]
                have G12 : Hid (u13.heap.size ≤ g12) := Nat.le_trans (Nat.le_of_eq HN.out.symm) (Nat.le_trans HX.out.size hg)
                have N12_11 : Hid (g12 ≠ g11) := (Nat.ne_of_lt (Nat.lt_of_lt_of_le K11.out.lt hg)).symm
                replace HX := Lib.hid (HX.out.trans (Turn.ofBelow hb))
                replace K11 := Lib.hid (K11.out.ext hb)
                have K12 := Lib.hid hk
                clear hk hg hb
                refine stepS_call (o := ⟨_, _, _, _, _, _⟩) rfl (by rfl) (fun K hK => ?_)
                refine wp_store_sc TS (.tmp 11) (.tmp 51) rfl g11 L _ TS (by rfl) (by rfl) arr_TS K11.out ?_
                intro u21 hk ht _
                have hX : Turn (fun i => u13.heap.size ≤ i) u20 u21 := ht.mono (fun i hi _ => by subst hi; exact G11.out)
                refine hK _ _ hX ?_
                clear hK K
                simp only [Act.put]
                replace HX := Lib.hid (HX.out.trans hX)
                replace K11 := Lib.hid hk
                replace K12 := Lib.hid (K12.out.turn ht (fun e => N12_11.out e))
                clear hk ht hX
                refine stepS_call (o := ⟨_, _, _, _, _, _⟩) rfl (by rfl) (fun K hK => ?_)
                refine wp_store_sc TS (.tmp 12) (.tmp 55) rfl g12 H _ TS (by rfl) (by rfl) arr_TS K12.out ?_
                intro u22 hk ht _
                have hX : Turn (fun i => u13.heap.size ≤ i) u21 u22 := ht.mono (fun i hi _ => by subst hi; exact G12.out)
                refine hK _ _ hX ?_
                clear hK K
                simp only [Act.put]
                replace HX := Lib.hid (HX.out.trans hX)
                replace K11 := Lib.hid (K11.out.turn ht (fun e => N12_11.out e.symm))
                replace K12 := Lib.hid hk
                clear hk ht hX
                refine wpGs_done ?_
                go_wp2
                go_meet
                exact ⟨g11, g12, rfl, rfl, ⟨K11.out, K12.out⟩, Below.trans HD.out (HX.out.below (B := u13.heap.size) (Nat.le_of_eq HN.out.symm) (fun i hi => hi))⟩
              · skip
                refine stepS_call (o := ⟨_, _, _, _, _, _⟩) rfl (by rfl) (fun K hK => ?_)
                refine wp_alloc_arr TS rfl arrz_TS ?_
                intro g12 u19 hg hk hb
                refine hK _ _ (Turn.ofBelow hb) ?_
                clear hK K
                simp only [Act.put, List.setIfInBounds_toArray, List.set_cons_zero, List.set_cons_succ]
                have G12 : Hid (u13.heap.size ≤ g12) := Nat.le_trans (Nat.le_of_eq HN.out.symm) (Nat.le_trans HX.out.size hg)
                have N12_11 : Hid (g12 ≠ g11) := (Nat.ne_of_lt (Nat.lt_of_lt_of_le K11.out.lt hg)).symm
                replace HX := Lib.hid (HX.out.trans (Turn.ofBelow hb))
                replace K11 := Lib.hid (K11.out.ext hb)
                have K12 := Lib.hid hk
                clear hk hg hb
                refine stepS_call (o := ⟨_, _, _, _, _, _⟩) rfl (by rfl) (fun K hK => ?_)
                go_simp
                refine (CH.out u19).mono ?_
                rintro e u20 ⟨rfl, hb⟩
                refine hK _ _ (Turn.ofBelow hb) ?_
                clear hK K
                replace HX := Lib.hid (HX.out.trans (Turn.ofBelow hb))
                replace K11 := Lib.hid (K11.out.ext hb)
                replace K12 := Lib.hid (K12.out.ext hb)
                clear hb
                refine stepS_call (o := ⟨_, _, _, _, _, _⟩) rfl (by rfl) (fun K hK => ?_)
                refine wp_store_sc TS (.tmp 11) (.tmp 51) rfl g11 L _ TS (by rfl) (by rfl) arr_TS K11.out ?_
                intro u21 hk ht _
                have hX : Turn (fun i => u13.heap.size ≤ i) u20 u21 := ht.mono (fun i hi _ => by subst hi; exact G11.out)
                refine hK _ _ hX ?_
                clear hK K
                simp only [Act.put]
                replace HX := Lib.hid (HX.out.trans hX)
                replace K11 := Lib.hid hk
                replace K12 := Lib.hid (K12.out.turn ht (fun e => N12_11.out e))
                clear hk ht hX
                refine stepS_call (o := ⟨_, _, _, _, _, _⟩) rfl (by rfl) (fun K hK => ?_)
                refine wp_store_sc TS (.tmp 12) (.tmp 55) rfl g12 H _ TS (by rfl) (by rfl) arr_TS K12.out ?_
                intro u22 hk ht _
                have hX : Turn (fun i => u13.heap.size ≤ i) u21 u22 := ht.mono (fun i hi _ => by subst hi; exact G12.out)
                refine hK _ _ hX ?_
                clear hK K
                simp only [Act.put]
                replace HX := Lib.hid (HX.out.trans hX)
                replace K11 := Lib.hid (K11.out.turn ht (fun e => N12_11.out e.symm))
                replace K12 := Lib.hid hk
                clear hk ht hX
                refine wpGs_done ?_
                go_wp2
                go_meet
                exact ⟨g11, g12, rfl, rfl, ⟨K11.out, K12.out⟩, Below.trans HD.out (HX.out.below (B := u13.heap.size) (Nat.le_of_eq HN.out.symm) (fun i hi => hi))⟩
            · skip
              refine stepS_call (o := ⟨_, _, _, _, _, _⟩) rfl (by rfl) (fun K hK => ?_)
              refine wp_alloc_arr TS rfl arrz_TS ?_
              intro g12 u18 hg hk hb
              refine hK _ _ (Turn.ofBelow hb) ?_
              clear hK K
              simp only [Act.put, List.setIfInBounds_toArray, List.set_cons_zero, List.set_cons_succ]
              have G12 : Hid (u13.heap.size ≤ g12) := Nat.le_trans (Nat.le_of_eq HN.out.symm) (Nat.le_trans HX.out.size hg)
              have N12_11 : Hid (g12 ≠ g11) := (Nat.ne_of_lt (Nat.lt_of_lt_of_le K11.out.lt hg)).symm
              replace HX := Lib.hid (HX.out.trans (Turn.ofBelow hb))
              replace K11 := Lib.hid (K11.out.ext hb)
              have K12 := Lib.hid hk
              clear hk hg hb
              refine stepS_call (o := ⟨_, _, _, _, _, _⟩) rfl (by rfl) (fun K hK => ?_)
              go_simp
              refine (CB.out u18).mono ?_
              rintro e u19 ⟨rfl, hb⟩
              refine hK _ _ (Turn.ofBelow hb) ?_
              clear hK K
              replace HX := Lib.hid (HX.out.trans (Turn.ofBelow hb))
              replace K11 := Lib.hid (K11.out.ext hb)
              replace K12 := Lib.hid (K12.out.ext hb)
              clear hb
              refine stepS_call (o := ⟨_, _, _, _, _, _⟩) rfl (by rfl) (fun K hK => ?_)
              go_simp
              refine (CH.out u19).mono ?_
              rintro e u20 ⟨rfl, hb⟩
              refine hK _ _ (Turn.ofBelow hb) ?_
              clear hK K
              replace HX := Lib.hid (HX.out.trans (Turn.ofBelow hb))
              replace K11 := Lib.hid (K11.out.ext hb)
              replace K12 := Lib.hid (K12.out.ext hb)
              clear hb
              refine stepS_call (o := ⟨_, _, _, _, _, _⟩) rfl (by rfl) (fun K hK => ?_)
              refine wp_store_sc TS (.tmp 11) (.tmp 51) rfl g11 L _ TS (by rfl) (by rfl) arr_TS K11.out ?_
              intro u21 hk ht _
              have hX : Turn (fun i => u13.heap.size ≤ i) u20 u21 := ht.mono (fun i hi _ => by subst hi; exact G11.out)
              refine hK _ _ hX ?_
              clear hK K
              simp only [Act.put]
              replace HX := Lib.hid (HX.out.trans hX)
              replace K11 := Lib.hid hk
              replace K12 := Lib.hid (K12.out.turn ht (fun e => N12_11.out e))
              clear hk ht hX
              refine stepS_call (o := ⟨_, _, _, _, _, _⟩) rfl (by rfl) (fun K hK => ?_)
              refine wp_store_sc TS (.tmp 12) (.tmp 55) rfl g12 H _ TS (by rfl) (by rfl) arr_TS K12.out ?_
              intro u22 hk ht _
              have hX : Turn (fun i => u13.heap.size ≤ i) u21 u22 := ht.mono (fun i hi _ => by subst hi; exact G12.out)
              refine hK _ _ hX ?_
              clear hK K
              simp only [Act.put]
              replace HX := Lib.hid (HX.out.trans hX)
              replace K11 := Lib.hid (K11.out.turn ht (fun e => N12_11.out e.symm))
              replace K12 := Lib.hid hk
              clear hk ht hX
              refine wpGs_done ?_
              go_wp2
              go_meet
              exact ⟨g11, g12, rfl, rfl, ⟨K11.out, K12.out⟩, Below.trans HD.out (HX.out.below (B := u13.heap.size) (Nat.le_of_eq HN.out.symm) (fun i hi => hi))⟩
          · skip
            refine stepS_call (o := ⟨_, _, _, _, _, _⟩) rfl (by rfl) (fun K hK => ?_)
            refine wp_alloc_arr TS rfl arrz_TS ?_
            intro g12 u17 hg hk hb
            refine hK _ _ (Turn.ofBelow hb) ?_
            clear hK K
            simp only [Act.put, List.setIfInBounds_toArray, List.set_cons_zero, List.set_cons_succ]
            have G12 : Hid (u13.heap.size ≤ g12) := Nat.le_trans (Nat.le_of_eq HN.out.symm) (Nat.le_trans HX.out.size hg)
            have N12_11 : Hid (g12 ≠ g11) := (Nat.ne_of_lt (Nat.lt_of_lt_of_le K11.out.lt hg)).symm
            replace HX := Lib.hid (HX.out.trans (Turn.ofBelow hb))
            replace K11 := Lib.hid (K11.out.ext hb)
            have K12 := Lib.hid hk
            clear hk hg hb
            refine stepS_call (o := ⟨_, _, _, _, _, _⟩) rfl (by rfl) (fun K hK => ?_)
            go_simp
            refine (CL.out u17).mono ?_
            rintro e u18 ⟨rfl, hb⟩
            refine hK _ _ (Turn.ofBelow hb) ?_
            clear hK K
            replace HX := Lib.hid (HX.out.trans (Turn.ofBelow hb))
            replace K11 := Lib.hid (K11.out.ext hb)
            replace K12 := Lib.hid (K12.out.ext hb)
            clear hb
            refine stepS_call (o := ⟨_, _, _, _, _, _⟩) rfl (by rfl) (fun K hK => ?_)
            go_simp
            refine (CB.out u18).mono ?_
            rintro e u19 ⟨rfl, hb⟩
            refine hK _ _ (Turn.ofBelow hb) ?_
            clear hK K
            replace HX := Lib.hid (HX.out.trans (Turn.ofBelow hb))
            replace K11 := Lib.hid (K11.out.ext hb)
            replace K12 := Lib.hid (K12.out.ext hb)
            clear hb
            refine stepS_call (o := ⟨_, _, _, _, _, _⟩) rfl (by rfl) (fun K hK => ?_)
            go_simp
            refine (CH.out u19).mono ?_
            rintro e u20 ⟨rfl, hb⟩
            refine hK _ _ (Turn.ofBelow hb) ?_
            clear hK K
            replace HX := Lib.hid (HX.out.trans (Turn.ofBelow hb))
            replace K11 := Lib.hid (K11.out.ext hb)
            replace K12 := Lib.hid (K12.out.ext hb)
            clear hb
            refine stepS_call (o := ⟨_, _, _, _, _, _⟩) rfl (by rfl) (fun K hK => ?_)
            refine wp_store_sc TS (.tmp 11) (.tmp 51) rfl g11 L _ TS (by rfl) (by rfl) arr_TS K11.out ?_
            intro u21 hk ht _
            have hX : Turn (fun i => u13.heap.size ≤ i) u20 u21 := ht.mono (fun i hi _ => by subst hi; exact G11.out)
            refine hK _ _ hX ?_
            clear hK K
            simp only [Act.put]
            replace HX := Lib.hid (HX.out.trans hX)
            replace K11 := Lib.hid hk
            replace K12 := Lib.hid (K12.out.turn ht (fun e => N12_11.out e))
            clear hk ht hX
            refine stepS_call (o := ⟨_, _, _, _, _, _⟩) rfl (by rfl) (fun K hK => ?_)
            refine wp_store_sc TS (.tmp 12) (.tmp 55) rfl g12 H _ TS (by rfl) (by rfl) arr_TS K12.out ?_
            intro u22 hk ht _
            have hX : Turn (fun i => u13.heap.size ≤ i) u21 u22 := ht.mono (fun i hi _ => by subst hi; exact G12.out)
            refine hK _ _ hX ?_
            clear hK K
            simp only [Act.put]
            replace HX := Lib.hid (HX.out.trans hX)
            replace K11 := Lib.hid (K11.out.turn ht (fun e => N12_11.out e.symm))
            replace K12 := Lib.hid hk
            clear hk ht hX
            refine wpGs_done ?_
            go_wp2
            go_meet
            exact ⟨g11, g12, rfl, rfl, ⟨K11.out, K12.out⟩, Below.trans HD.out (HX.out.below (B := u13.heap.size) (Nat.le_of_eq HN.out.symm) (fun i hi => hi))⟩
        · skip
          refine stepS_call (o := ⟨_, _, _, _, _, _⟩) rfl (by rfl) (fun K hK => ?_)
          refine wp_alloc_arr TS rfl arrz_TS ?_
          intro g12 u16 hg hk hb
          refine hK _ _ (Turn.ofBelow hb) ?_
          clear hK K
          simp only [Act.put, List.setIfInBounds_toArray, List.set_cons_zero, List.set_cons_succ]
          have G12 : Hid (u13.heap.size ≤ g12) := Nat.le_trans (Nat.le_of_eq HN.out.symm) (Nat.le_trans HX.out.size hg)
          have N12_11 : Hid (g12 ≠ g11) := (Nat.ne_of_lt (Nat.lt_of_lt_of_le K11.out.lt hg)).symm
          replace HX := Lib.hid (HX.out.trans (Turn.ofBelow hb))
          replace K11 := Lib.hid (K11.out.ext hb)
          have K12 := Lib.hid hk
          clear hk hg hb
          refine stepS_call (o := ⟨_, _, _, _, _, _⟩) rfl (by rfl) (fun K hK => ?_)
          go_simp
          refine (CB.out u16).mono ?_
          rintro e u17 ⟨rfl, hb⟩
          refine hK _ _ (Turn.ofBelow hb) ?_
          clear hK K
          replace HX := Lib.hid (HX.out.trans (Turn.ofBelow hb))
          replace K11 := Lib.hid (K11.out.ext hb)
          replace K12 := Lib.hid (K12.out.ext hb)
          clear hb
          refine stepS_call (o := ⟨_, _, _, _, _, _⟩) rfl (by rfl) (fun K hK => ?_)
          go_simp
          refine (CL.out u17).mono ?_
          rintro e u18 ⟨rfl, hb⟩
          refine hK _ _ (Turn.ofBelow hb) ?_
          clear hK K
          replace HX := Lib.hid (HX.out.trans (Turn.ofBelow hb))
          replace K11 := Lib.hid (K11.out.ext hb)
          replace K12 := Lib.hid (K12.out.ext hb)
          clear hb
          refine stepS_call (o := ⟨_, _, _, _, _, _⟩) rfl (by rfl) (fun K hK => ?_)
          go_simp
          refine (CB.out u18).mono ?_
          rintro e u19 ⟨rfl, hb⟩
          refine hK _ _ (Turn.ofBelow hb) ?_
          clear hK K
          replace HX := Lib.hid (HX.out.trans (Turn.ofBelow hb))
          replace K11 := Lib.hid (K11.out.ext hb)
          replace K12 := Lib.hid (K12.out.ext hb)
          clear hb
          refine stepS_call (o := ⟨_, _, _, _, _, _⟩) rfl (by rfl) (fun K hK => ?_)
          go_simp
          refine (CH.out u19).mono ?_
          rintro e u20 ⟨rfl, hb⟩
          refine hK _ _ (Turn.ofBelow hb) ?_
          clear hK K
          replace HX := Lib.hid (HX.out.trans (Turn.ofBelow hb))
          replace K11 := Lib.hid (K11.out.ext hb)
          replace K12 := Lib.hid (K12.out.ext hb)
          clear hb
          refine stepS_call (o := ⟨_, _, _, _, _, _⟩) rfl (by rfl) (fun K hK => ?_)
          refine wp_store_sc TS (.tmp 11) (.tmp 51) rfl g11 L _ TS (by rfl) (by rfl) arr_TS K11.out ?_
          intro u21 hk ht _
          have hX : Turn (fun i => u13.heap.size ≤ i) u20 u21 := ht.mono (fun i hi _ => by subst hi; exact G11.out)
          refine hK _ _ hX ?_
          clear hK K
          simp only [Act.put]
          replace HX := Lib.hid (HX.out.trans hX)
          replace K11 := Lib.hid hk
          replace K12 := Lib.hid (K12.out.turn ht (fun e => N12_11.out e))
          clear hk ht hX
          refine stepS_call (o := ⟨_, _, _, _, _, _⟩) rfl (by rfl) (fun K hK => ?_)
          refine wp_store_sc TS (.tmp 12) (.tmp 55) rfl g12 H _ TS (by rfl) (by rfl) arr_TS K12.out ?_
          intro u22 hk ht _
          have hX : Turn (fun i => u13.heap.size ≤ i) u21 u22 := ht.mono (fun i hi _ => by subst hi; exact G12.out)
          refine hK _ _ hX ?_
          clear hK K
          simp only [Act.put]
          replace HX := Lib.hid (HX.out.trans hX)
          replace K11 := Lib.hid (K11.out.turn ht (fun e => N12_11.out e.symm))
          replace K12 := Lib.hid hk
          clear hk ht hX
          refine wpGs_done ?_
          go_wp2
          go_meet
          exact ⟨g11, g12, rfl, rfl, ⟨K11.out, K12.out⟩, Below.trans HD.out (HX.out.below (B := u13.heap.size) (Nat.le_of_eq HN.out.symm) (fun i hi => hi))⟩
      · skip
        refine stepS_call (o := ⟨_, _, _, _, _, _⟩) rfl (by rfl) (fun K hK => ?_)
        refine wp_alloc_arr TS rfl arrz_TS ?_
        intro g12 u15 hg hk hb
        refine hK _ _ (Turn.ofBelow hb) ?_
        clear hK K
        simp only [Act.put, List.setIfInBounds_toArray, List.set_cons_zero, List.set_cons_succ]
        have G12 : Hid (u13.heap.size ≤ g12) := Nat.le_trans (Nat.le_of_eq HN.out.symm) (Nat.le_trans HX.out.size hg)
        replace HX := Lib.hid (HX.out.trans (Turn.ofBelow hb))
        have K12 := Lib.hid hk
        clear hk hg hb
        refine ⟨?_, ?_⟩
        · skip
          refine stepS_call (o := ⟨_, _, _, _, _, _⟩) rfl (by rfl) (fun K hK => ?_)
          go_simp
          refine (CB.out u15).mono ?_
          rintro e u16 ⟨rfl, hb⟩
          refine hK _ _ (Turn.ofBelow hb) ?_
          clear hK K
          replace HX := Lib.hid (HX.out.trans (Turn.ofBelow hb))
          replace K12 := Lib.hid (K12.out.ext hb)
          clear hb
          refine ⟨?_, ?_⟩
          · skip
            refine stepS_call (o := ⟨_, _, _, _, _, _⟩) rfl (by rfl) (fun K hK => ?_)
            go_simp
            refine (CL.out u16).mono ?_
            rintro e u17 ⟨rfl, hb⟩
            refine hK _ _ (Turn.ofBelow hb) ?_
            clear hK K
            replace HX := Lib.hid (HX.out.trans (Turn.ofBelow hb))
            replace K12 := Lib.hid (K12.out.ext hb)
            clear hb
            refine ⟨?_, ?_⟩
            · skip
              refine stepS_call (o := ⟨_, _, _, _, _, _⟩) rfl (by rfl) (fun K hK => ?_)
              go_simp
              refine (CB.out u17).mono ?_
              rintro e u18 ⟨rfl, hb⟩
              refine hK _ _ (Turn.ofBelow hb) ?_
              clear hK K
              replace HX := Lib.hid (HX.out.trans (Turn.ofBelow hb))
              replace K12 := Lib.hid (K12.out.ext hb)
              clear hb
              refine ⟨?_, ?_⟩
              · skip
                refine stepS_call (o := ⟨_, _, _, _, _, _⟩) rfl (by rfl) (fun K hK => ?_)
                go_simp
                refine (CH.out u18).mono ?_
                rintro e u19 ⟨rfl, hb⟩
                refine hK _ _ (Turn.ofBelow hb) ?_
                clear hK K
                replace HX := Lib.hid (HX.out.trans (Turn.ofBelow hb))
                replace K12 := Lib.hid (K12.out.ext hb)
                clear hb
                refine stepS_call (o := ⟨_, _, _, _, _, _⟩) rfl (by rfl) (fun K hK => ?_)
                refine wp_alloc_arr TS rfl arrz_TS ?_
                intro g11 u20 hg hk hb
                refine hK _ _ (Turn.ofBelow hb) ?_
                clear hK K
                simp only [Act.put, List.setIfInBounds_toArray, List.set_cons_zero, List.set_cons_succ]
                have G11 : Hid (u13.heap.size ≤ g11) := Nat.le_trans (Nat.le_of_eq HN.out.symm) (Nat.le_trans HX.out.size hg)
                have N11_12 : Hid (g11 ≠ g12) := (Nat.ne_of_lt (Nat.lt_of_lt_of_le K12.out.lt hg)).symm
                replace HX := Lib.hid (HX.out.trans (Turn.ofBelow hb))
                replace K12 := Lib.hid (K12.out.ext hb)
                have K11 := Lib.hid hk
                clear hk hg hb
                refine stepS_call (o := ⟨_, _, _, _, _, _⟩) rfl (by rfl) (fun K hK => ?_)
                refine wp_store_sc TS (.tmp 11) (.tmp 51) rfl g11 L _ TS (by rfl) (by rfl) arr_TS K11.out ?_
                intro u21 hk ht _
                have hX : Turn (fun i => u13.heap.size ≤ i) u20 u21 := ht.mono (fun i hi _ => by subst hi; exact G11.out)
                refine hK _ _ hX ?_
                clear hK K
                simp only [Act.put]
                replace HX := Lib.hid (HX.out.trans hX)
                replace K12 := Lib.hid (K12.out.turn ht (fun e => N11_12.out e.symm))
                replace K11 := Lib.hid hk
                clear hk ht hX
                refine stepS_call (o := ⟨_, _, _, _, _, _⟩) rfl (by rfl) (fun K hK => ?_)
                refine wp_store_sc TS (.tmp 12) (.tmp 55) rfl g12 H _ TS (by rfl) (by rfl) arr_TS K12.out ?_
                intro u22 hk ht _
                have hX : Turn (fun i => u13.heap.size ≤ i) u21 u22 := ht.mono (fun i hi _ => by subst hi; exact G12.out)
                refine hK _ _ hX ?_
                clear hK K
                simp only [Act.put]
                replace HX := Lib.hid (HX.out.trans hX)
                replace K12 := Lib.hid hk
                replace K11 := Lib.hid (K11.out.turn ht (fun e => N11_12.out e))
                clear hk ht hX
                refine wpGs_done ?_
                go_wp2
                go_meet
                exact ⟨g11, g12, rfl, rfl, ⟨K11.out, K12.out⟩, Below.trans HD.out (HX.out.below (B := u13.heap.size) (Nat.le_of_eq HN.out.symm) (fun i hi => hi))⟩
              · skip
                refine stepS_call (o := ⟨_, _, _, _, _, _⟩) rfl (by rfl) (fun K hK => ?_)
                refine wp_alloc_arr TS rfl arrz_TS ?_
                intro g11 u19 hg hk hb
                refine hK _ _ (Turn.ofBelow hb) ?_
                clear hK K
                simp only [Act.put, List.setIfInBounds_toArray, List.set_cons_zero, List.set_cons_succ]
                have G11 : Hid (u13.heap.size ≤ g11) := Nat.le_trans (Nat.le_of_eq HN.out.symm) (Nat.le_trans HX.out.size hg)
                have N11_12 : Hid (g11 ≠ g12) := (Nat.ne_of_lt (Nat.lt_of_lt_of_le K12.out.lt hg)).symm
                replace HX := Lib.hid (HX.out.trans (Turn.ofBelow hb))
                replace K12 := Lib.hid (K12.out.ext hb)
                have K11 := Lib.hid hk
                clear hk hg hb
                refine stepS_call (o := ⟨_, _, _, _, _, _⟩) rfl (by rfl) (fun K hK => ?_)
                go_simp
                refine (CH.out u19).mono ?_
                rintro e u20 ⟨rfl, hb⟩
                refine hK _ _ (Turn.ofBelow hb) ?_
                clear hK K
                replace HX := Lib.hid (HX.out.trans (Turn.ofBelow hb))
                replace K12 := Lib.hid (K12.out.ext hb)
                replace K11 := Lib.hid (K11.out.ext hb)
                clear hb
                refine stepS_call (o := ⟨_, _, _, _, _, _⟩) rfl (by rfl) (fun K hK => ?_)
                refine wp_store_sc TS (.tmp 11) (.tmp 51) rfl g11 L _ TS (by rfl) (by rfl) arr_TS K11.out ?_
                intro u21 hk ht _
                have hX : Turn (fun i => u13.heap.size ≤ i) u20 u21 := ht.mono (fun i hi _ => by subst hi; exact G11.out)
                refine hK _ _ hX ?_
                clear hK K
                simp only [Act.put]
                replace HX := Lib.hid (HX.out.trans hX)
                replace K12 := Lib.hid (K12.out.turn ht (fun e => N11_12.out e.symm))
                replace K11 := Lib.hid hk
                clear hk ht hX
                refine stepS_call (o := ⟨_, _, _, _, _, _⟩) rfl (by rfl) (fun K hK => ?_)
                refine wp_store_sc TS (.tmp 12) (.tmp 55) rfl g12 H _ TS (by rfl) (by rfl) arr_TS K12.out ?_
                intro u22 hk ht _
                have hX : Turn (fun i => u13.heap.size ≤ i) u21 u22 := ht.mono (fun i hi _ => by subst hi; exact G12.out)
                refine hK _ _ hX ?_
                clear hK K
                simp only [Act.put]
                replace HX := Lib.hid (HX.out.trans hX)
                replace K12 := Lib.hid hk
                replace K11 := Lib.hid (K11.out.turn ht (fun e => N11_12.out e))
                clear hk ht hX
                refine wpGs_done ?_
                go_wp2
                go_meet
                exact ⟨g11, g12, rfl, rfl, ⟨K11.out, K12.out⟩, Below.trans HD.out (HX.out.below (B := u13.heap.size) (Nat.le_of_eq HN.out.symm) (fun i hi => hi))⟩
            · skip
              refine stepS_call (o := ⟨_, _, _, _, _, _⟩) rfl (by rfl) (fun K hK => ?_)
              refine wp_alloc_arr TS rfl arrz_TS ?_
              intro g11 u18 hg hk hb
              refine hK _ _ (Turn.ofBelow hb) ?_
              clear hK K
              simp only [Act.put, List.setIfInBounds_toArray, List.set_cons_zero, List.set_cons_succ]
              have G11 : Hid (u13.heap.size ≤ g11) := Nat.le_trans (Nat.le_of_eq HN.out.symm) (Nat.le_trans HX.out.size hg)
              have N11_12 : Hid (g11 ≠ g12) := (Nat.ne_of_lt (Nat.lt_of_lt_of_le K12.out.lt hg)).symm
              replace HX := Lib.hid (HX.out.trans (Turn.ofBelow hb))
              replace K12 := Lib.hid (K12.out.ext hb)
              have K11 := Lib.hid hk
              clear hk hg hb
              refine stepS_call (o := ⟨_, _, _, _, _, _⟩) rfl (by rfl) (fun K hK => ?_)
              go_simp
              refine (CB.out u18).mono ?_
              rintro e u19 ⟨rfl, hb⟩
              refine hK _ _ (Turn.ofBelow hb) ?_
              clear hK K
              replace HX := Lib.hid (HX.out.trans (Turn.ofBelow hb))
              replace K12 := Lib.hid (K12.out.ext hb)
              replace K11 := Lib.hid (K11.out.ext hb)
              clear hb
              refine stepS_call (o := ⟨_, _, _, _, _, _⟩) rfl (by rfl) (fun K hK => ?_)
              go_simp
              refine (CH.out u19).mono ?_
              rintro e u20 ⟨rfl, hb⟩
              refine hK _ _ (Turn.ofBelow hb) ?_
              clear hK K
              replace HX := Lib.hid (HX.out.trans (Turn.ofBelow hb))
              replace K12 := Lib.hid (K12.out.ext hb)
              replace K11 := Lib.hid (K11.out.ext hb)
              clear hb
              refine stepS_call (o := ⟨_, _, _, _, _, _⟩) rfl (by rfl) (fun K hK => ?_)
              refine wp_store_sc TS (.tmp 11) (.tmp 51) rfl g11 L _ TS (by rfl) (by rfl) arr_TS K11.out ?_
              intro u21 hk ht _
              have hX : Turn (fun i => u13.heap.size ≤ i) u20 u21 := ht.mono (fun i hi _ => by subst hi; exact G11.out)
              refine hK _ _ hX ?_
              clear hK K
              simp only [Act.put]
              replace HX := Lib.hid (HX.out.trans hX)
              replace K12 := Lib.hid (K12.out.turn ht (fun e => N11_12.out e.symm))
              replace K11 := Lib.hid hk
              clear hk ht hX
              refine stepS_call (o := ⟨_, _, _, _, _, _⟩) rfl (by rfl) (fun K hK => ?_)
              refine wp_store_sc TS (.tmp 12) (.tmp 55) rfl g12 H _ TS (by rfl) (by rfl) arr_TS K12.out ?_
              intro u22 hk ht _
              have hX : Turn (fun i => u13.heap.size ≤ i) u21 u22 := ht.mono (fun i hi _ => by subst hi; exact G12.out)
              refine hK _ _ hX ?_
              clear hK K
              simp only [Act.put]
              replace HX := Lib.hid (HX.out.trans hX)
              replace K12 := Lib.hid hk
              replace K11 := Lib.hid (K11.out.turn ht (fun e => N11_12.out e))
              clear hk ht hX
              refine wpGs_done ?_
              go_wp2
              go_meet
              exact ⟨g11, g12, rfl, rfl, ⟨K11.out, K12.out⟩, Below.trans HD.out (HX.out.below (B := u13.heap.size) (Nat.le_of_eq HN.out.symm) (fun i hi => hi))⟩
          · skip
            refine stepS_call (o := ⟨_, _, _, _, _, _⟩) rfl (by rfl) (fun K hK => ?_)
            refine wp_alloc_arr TS rfl arrz_TS ?_
            intro g11 u17 hg hk hb
            refine hK _ _ (Turn.ofBelow hb) ?_
            clear hK K
            simp only [Act.put, List.setIfInBounds_toArray, List.set_cons_zero, List.set_cons_succ]
            have G11 : Hid (u13.heap.size ≤ g11) := Nat.le_trans (Nat.le_of_eq HN.out.symm) (Nat.le_trans HX.out.size hg)
            have N11_12 : Hid (g11 ≠ g12) := (Nat.ne_of_lt (Nat.lt_of_lt_of_le K12.out.lt hg)).symm
            replace HX := Lib.hid (HX.out.trans (Turn.ofBelow hb))
            replace K12 := Lib.hid (K12.out.ext hb)
            have K11 := Lib.hid hk
            clear hk hg hb
            refine stepS_call (o := ⟨_, _, _, _, _, _⟩) rfl (by rfl) (fun K hK => ?_)
            go_simp
            refine (CL.out u17).mono ?_
            rintro e u18 ⟨rfl, hb⟩
            refine hK _ _ (Turn.ofBelow hb) ?_
            clear hK K
            replace HX := Lib.hid (HX.out.trans (Turn.ofBelow hb))
            replace K12 := Lib.hid (K12.out.ext hb)
            replace K11 := Lib.hid (K11.out.ext hb)
            clear hb
            refine stepS_call (o := ⟨_, _, _, _, _, _⟩) rfl (by rfl) (fun K hK => ?_)
            go_simp
            refine (CB.out u18).mono ?_
            rintro e u19 ⟨rfl, hb⟩
            refine hK _ _ (Turn.ofBelow hb) ?_
            clear hK K
            replace HX := Lib.hid (HX.out.trans (Turn.ofBelow hb))
            replace K12 := Lib.hid (K12.out.ext hb)
            replace K11 := Lib.hid (K11.out.ext hb)
            clear hb
            refine stepS_call (o := ⟨_, _, _, _, _, _⟩) rfl (by rfl) (fun K hK => ?_)
            go_simp
            refine (CH.out u19).mono ?_
            rintro e u20 ⟨rfl, hb⟩
            refine hK _ _ (Turn.ofBelow hb) ?_
            clear hK K
            replace HX := Lib.hid (HX.out.trans (Turn.ofBelow hb))
            replace K12 := Lib.hid (K12.out.ext hb)
            replace K11 := Lib.hid (K11.out.ext hb)
            clear hb
            refine stepS_call (o := ⟨_, _, _, _, _, _⟩) rfl (by rfl) (fun K hK => ?_)
            refine wp_store_sc TS (.tmp 11) (.tmp 51) rfl g11 L _ TS (by rfl) (by rfl) arr_TS K11.out ?_
            intro u21 hk ht _
            have hX : Turn (fun i => u13.heap.size ≤ i) u20 u21 := ht.mono (fun i hi _ => by subst hi; exact G11.out)
            refine hK _ _ hX ?_
            clear hK K
            simp only [Act.put]
            replace HX := Lib.hid (HX.out.trans hX)
            replace K12 := Lib.hid (K12.out.turn ht (fun e => N11_12.out e.symm))
            replace K11 := Lib.hid hk
            clear hk ht hX
            refine stepS_call (o := ⟨_, _, _, _, _, _⟩) rfl (by rfl) (fun K hK => ?_)
            refine wp_store_sc TS (.tmp 12) (.tmp 55) rfl g12 H _ TS (by rfl) (by rfl) arr_TS K12.out ?_
            intro u22 hk ht _
            have hX : Turn (fun i => u13.heap.size ≤ i) u21 u22 := ht.mono (fun i hi _ => by subst hi; exact G12.out)
            refine hK _ _ hX ?_
            clear hK K
            simp only [Act.put]
            replace HX := Lib.hid (HX.out.trans hX)
            replace K12 := Lib.hid hk
            replace K11 := Lib.hid (K11.out.turn ht (fun e => N11_12.out e))
            clear hk ht hX
            refine wpGs_done ?_
            go_wp2
            go_meet
            exact ⟨g11, g12, rfl, rfl, ⟨K11.out, K12.out⟩, Below.trans HD.out (HX.out.below (B := u13.heap.size) (Nat.le_of_eq HN.out.symm) (fun i hi => hi))⟩
        · skip
          refine stepS_call (o := ⟨_, _, _, _, _, _⟩) rfl (by rfl) (fun K hK => ?_)
          refine wp_alloc_arr TS rfl arrz_TS ?_
          intro g11 u16 hg hk hb
          refine hK _ _ (Turn.ofBelow hb) ?_
          clear hK K
          simp only [Act.put, List.setIfInBounds_toArray, List.set_cons_zero, List.set_cons_succ]
          have G11 : Hid (u13.heap.size ≤ g11) := Nat.le_trans (Nat.le_of_eq HN.out.symm) (Nat.le_trans HX.out.size hg)
          have N11_12 : Hid (g11 ≠ g12) := (Nat.ne_of_lt (Nat.lt_of_lt_of_le K12.out.lt hg)).symm
          replace HX := Lib.hid (HX.out.trans (Turn.ofBelow hb))
          replace K12 := Lib.hid (K12.out.ext hb)
          have K11 := Lib.hid hk
          clear hk hg hb
          refine stepS_call (o := ⟨_, _, _, _, _, _⟩) rfl (by rfl) (fun K hK => ?_)
          go_simp
          refine (CB.out u16).mono ?_
          rintro e u17 ⟨rfl, hb⟩
          refine hK _ _ (Turn.ofBelow hb) ?_
          clear hK K
          replace HX := Lib.hid (HX.out.trans (Turn.ofBelow hb))
          replace K12 := Lib.hid (K12.out.ext hb)
          replace K11 := Lib.hid (K11.out.ext hb)
          clear hb
          refine stepS_call (o := ⟨_, _, _, _, _, _⟩) rfl (by rfl) (fun K hK => ?_)
          go_simp
          refine (CL.out u17).mono ?_
          rintro e u18 ⟨rfl, hb⟩
          refine hK _ _ (Turn.ofBelow hb) ?_
          clear hK K
          replace HX := Lib.hid (HX.out.trans (Turn.ofBelow hb))
          replace K12 := Lib.hid (K12.out.ext hb)
          replace K11 := Lib.hid (K11.out.ext hb)
          clear hb
          refine stepS_call (o := ⟨_, _, _, _, _, _⟩) rfl (by rfl) (fun K hK => ?_)
          go_simp
          refine (CB.out u18).mono ?_
          rintro e u19 ⟨rfl, hb⟩
          refine hK _ _ (Turn.ofBelow hb) ?_
          clear hK K
          replace HX := Lib.hid (HX.out.trans (Turn.ofBelow hb))
          replace K12 := Lib.hid (K12.out.ext hb)
          replace K11 := Lib.hid (K11.out.ext hb)
          clear hb
          refine stepS_call (o := ⟨_, _, _, _, _, _⟩) rfl (by rfl) (fun K hK => ?_)
          go_simp
          refine (CH.out u19).mono ?_
          rintro e u20 ⟨rfl, hb⟩
          refine hK _ _ (Turn.ofBelow hb) ?_
          clear hK K
          replace HX := Lib.hid (HX.out.trans (Turn.ofBelow hb))
          replace K12 := Lib.hid (K12.out.ext hb)
          replace K11 := Lib.hid (K11.out.ext hb)
          clear hb
          refine stepS_call (o := ⟨_, _, _, _, _, _⟩) rfl (by rfl) (fun K hK => ?_)
          refine wp_store_sc TS (.tmp 11) (.tmp 51) rfl g11 L _ TS (by rfl) (by rfl) arr_TS K11.out ?_
          intro u21 hk ht _
          have hX : Turn (fun i => u13.heap.size ≤ i) u20 u21 := ht.mono (fun i hi _ => by subst hi; exact G11.out)
          refine hK _ _ hX ?_
          clear hK K
          simp only [Act.put]
          replace HX := Lib.hid (HX.out.trans hX)
          replace K12 := Lib.hid (K12.out.turn ht (fun e => N11_12.out e.symm))
          replace K11 := Lib.hid hk
          clear hk ht hX
          refine stepS_call (o := ⟨_, _, _, _, _, _⟩) rfl (by rfl) (fun K hK => ?_)
          refine wp_store_sc TS (.tmp 12) (.tmp 55) rfl g12 H _ TS (by rfl) (by rfl) arr_TS K12.out ?_
          intro u22 hk ht _
          have hX : Turn (fun i => u13.heap.size ≤ i) u21 u22 := ht.mono (fun i hi _ => by subst hi; exact G12.out)
          refine hK _ _ hX ?_
          clear hK K
          simp only [Act.put]
          replace HX := Lib.hid (HX.out.trans hX)
          replace K12 := Lib.hid hk
          replace K11 := Lib.hid (K11.out.turn ht (fun e => N11_12.out e))
          clear hk ht hX
          refine wpGs_done ?_
          go_wp2
          go_meet
          exact ⟨g11, g12, rfl, rfl, ⟨K11.out, K12.out⟩, Below.trans HD.out (HX.out.below (B := u13.heap.size) (Nat.le_of_eq HN.out.symm) (fun i hi => hi))⟩
    case rest =>
      obtain ⟨g11, g12, rfl, rfl, hk, hb⟩ := hcut
      obtain ⟨k11, k12⟩ := hk.out
      replace hb := hb.out
      generalize wc = u15 at *
      replace HB := Lib.hid (HB.out.trans (hb.mono HB.out.size))
      replace HG := Lib.hid (HG.out.below hb)
      replace HT := Lib.hid (HT.out.below hb)
      replace K3 := Lib.hid (K3.out.ext hb)
      replace K4 := Lib.hid (K4.out.ext hb)
      replace K5 := Lib.hid (K5.out.ext hb)
      replace K7 := Lib.hid (K7.out.ext hb)
      replace K8 := Lib.hid (K8.out.ext hb)
      replace K9 := Lib.hid (K9.out.ext hb)
      have K11 := Lib.hid k11
      have K12 := Lib.hid k12
      clear hk hb k11 k12
      go_wp2_with fail
      refine wp_region_gr [(0, true), (1, true), (4, true), (5, true), (9, true), (11, true), (2, false), (3, false), (6, false), (7, false), (8, true), (10, false), (12, false), (13, true), (14, true), (15, true), (16, true), (17, true), (19, true), (18, false), (20, true), (21, true), (22, true), (23, true), (25, true), (28, true), (24, false), (26, false), (27, true), (29, false), (30, true), (31, true), (32, true), (33, true), (36, true), (34, false), (35, false), (37, true), (38, true), (39, true), (40, false), (41, true), (42, true)] (by kernel_rfl) (by kernel_rfl) (by kernel_rfl) (by kernel_rfl) (fun _ _ _ _ _ h => h) ?_
      have hb : Ext u15 u15.drew := Ext.drew _
      replace HB := Lib.hid (HB.out.trans (hb.mono HB.out.size))
      replace HG := Lib.hid (HG.out.below hb)
      replace HT := Lib.hid (HT.out.below hb)
      replace K3 := Lib.hid (K3.out.ext hb)
      replace K4 := Lib.hid (K4.out.ext hb)
      replace K5 := Lib.hid (K5.out.ext hb)
      replace K7 := Lib.hid (K7.out.ext hb)
      replace K8 := Lib.hid (K8.out.ext hb)
      replace K9 := Lib.hid (K9.out.ext hb)
      replace K11 := Lib.hid (K11.out.ext hb)
      replace K12 := Lib.hid (K12.out.ext hb)
      clear hb
      generalize u15.drew = u16 at *
      refine wpGr_read (o := ⟨_, _, _, _, _, _⟩) (v := .agg (sc f)) rfl (by rfl) (fun w' hw' => rd_load_sc TS (.tmp 7) rfl g7 f TS (by rfl) arr_TS (K7.out.ext hw')) ?_
      simp only [Act.put, List.setIfInBounds_toArray, List.set_cons_zero, List.set_cons_succ]
      refine wpGr_read (o := ⟨_, _, _, _, _, _⟩) (v := .agg (sc g)) rfl (by rfl) (fun w' hw' => rd_load_sc TS (.tmp 8) rfl g8 g TS (by rfl) arr_TS (K8.out.ext hw')) ?_
      simp only [Act.put, List.setIfInBounds_toArray, List.set_cons_zero, List.set_cons_succ]
      refine wpGr_read (o := ⟨_, _, _, _, _, _⟩) (v := .agg (sc f)) rfl (by rfl) (fun w' hw' => rd_load_sc TS (.tmp 7) rfl g7 f TS (by rfl) arr_TS (K7.out.ext hw')) ?_
      simp only [Act.put, List.setIfInBounds_toArray, List.set_cons_zero, List.set_cons_succ]
      refine wpGr_read (o := ⟨_, _, _, _, _, _⟩) (v := .agg (sc g)) rfl (by rfl) (fun w' hw' => rd_load_sc TS (.tmp 8) rfl g8 g TS (by rfl) arr_TS (K8.out.ext hw')) ?_
      simp only [Act.put, List.setIfInBounds_toArray, List.set_cons_zero, List.set_cons_succ]
      refine wpGr_read (o := ⟨_, _, _, _, _, _⟩) (v := .agg (sc f)) rfl (by rfl) (fun w' hw' => rd_load_sc TS (.tmp 7) rfl g7 f TS (by rfl) arr_TS (K7.out.ext hw')) ?_
      simp only [Act.put, List.setIfInBounds_toArray, List.set_cons_zero, List.set_cons_succ]
      refine wpGr_read (o := ⟨_, _, _, _, _, _⟩) (v := .agg (sc g)) rfl (by rfl) (fun w' hw' => rd_load_sc TS (.tmp 8) rfl g8 g TS (by rfl) arr_TS (K8.out.ext hw')) ?_
      simp only [Act.put, List.setIfInBounds_toArray, List.set_cons_zero, List.set_cons_succ]
      refine wpGr_call (o := ⟨_, _, _, _, _, _⟩) rfl (by rfl) (fun K hK => ?_)
      go_simp
      refine (CA7.out u16).mono ?_
      rintro e u17 ⟨rfl, hb⟩
      refine hK _ _ hb ?_
      clear hK K
      replace HB := Lib.hid (HB.out.trans (hb.mono HB.out.size))
      replace HG := Lib.hid (HG.out.below hb)
      replace HT := Lib.hid (HT.out.below hb)
      replace K3 := Lib.hid (K3.out.ext hb)
      replace K4 := Lib.hid (K4.out.ext hb)
      replace K5 := Lib.hid (K5.out.ext hb)
      replace K7 := Lib.hid (K7.out.ext hb)
      replace K8 := Lib.hid (K8.out.ext hb)
      replace K9 := Lib.hid (K9.out.ext hb)
      replace K11 := Lib.hid (K11.out.ext hb)
      replace K12 := Lib.hid (K12.out.ext hb)
      clear hb
      refine wpGr_call (o := ⟨_, _, _, _, _, _⟩) rfl (by rfl) (fun K hK => ?_)
      go_simp
      refine (Dc7.out u17).mono ?_
      rintro e u18 ⟨rfl, hb⟩
      refine hK _ _ hb ?_
      clear hK K
      replace HB := Lib.hid (HB.out.trans (hb.mono HB.out.size))
      replace HG := Lib.hid (HG.out.below hb)
      replace HT := Lib.hid (HT.out.below hb)
      replace K3 := Lib.hid (K3.out.ext hb)
      replace K4 := Lib.hid (K4.out.ext hb)
      replace K5 := Lib.hid (K5.out.ext hb)
      replace K7 := Lib.hid (K7.out.ext hb)
      replace K8 := Lib.hid (K8.out.ext hb)
      replace K9 := Lib.hid (K9.out.ext hb)
      replace K11 := Lib.hid (K11.out.ext hb)
      replace K12 := Lib.hid (K12.out.ext hb)
      clear hb
      refine wpGr_call (o := ⟨_, _, _, _, _, _⟩) rfl (by rfl) (fun K hK => ?_)
      go_simp
      refine (CE.out u18).mono ?_
      rintro e u19 ⟨rfl, hb⟩
      refine hK _ _ hb ?_
      clear hK K
      replace HB := Lib.hid (HB.out.trans (hb.mono HB.out.size))
      replace HG := Lib.hid (HG.out.below hb)
      replace HT := Lib.hid (HT.out.below hb)
      replace K3 := Lib.hid (K3.out.ext hb)
      replace K4 := Lib.hid (K4.out.ext hb)
      replace K5 := Lib.hid (K5.out.ext hb)
      replace K7 := Lib.hid (K7.out.ext hb)
      replace K8 := Lib.hid (K8.out.ext hb)
      replace K9 := Lib.hid (K9.out.ext hb)
      replace K11 := Lib.hid (K11.out.ext hb)
      replace K12 := Lib.hid (K12.out.ext hb)
      clear hb
      refine wpGr_call (o := ⟨_, _, _, _, _, _⟩) rfl (by rfl) (fun K hK => ?_)
      go_simp
      refine (DcE.out u19).mono ?_
      rintro e u20 ⟨rfl, hb⟩
      refine hK _ _ hb ?_
      clear hK K
      replace HB := Lib.hid (HB.out.trans (hb.mono HB.out.size))
      replace HG := Lib.hid (HG.out.below hb)
      replace HT := Lib.hid (HT.out.below hb)
      replace K3 := Lib.hid (K3.out.ext hb)
      replace K4 := Lib.hid (K4.out.ext hb)
      replace K5 := Lib.hid (K5.out.ext hb)
      replace K7 := Lib.hid (K7.out.ext hb)
      replace K8 := Lib.hid (K8.out.ext hb)
      replace K9 := Lib.hid (K9.out.ext hb)
      replace K11 := Lib.hid (K11.out.ext hb)
      replace K12 := Lib.hid (K12.out.ext hb)
      clear hb
      iterate 1 (refine wpGr_read (o := ⟨_, _, _, _, _, _⟩) (v := ?_) rfl (by rfl) ?_ ?_; rotate_left; (intro w' hw'; go_simp; with_reducible rfl); simp only [Act.put, List.setIfInBounds_toArray, List.set_cons_zero, List.set_cons_succ])
      refine wpGr_call (o := ⟨_, _, _, _, _, _⟩) rfl (by rfl) (fun K hK => ?_)
      go_simp
      refine (Dcf.out u20).mono ?_
      rintro e u21 ⟨rfl, hb⟩
      refine hK _ _ hb ?_
      clear hK K
      replace HB := Lib.hid (HB.out.trans (hb.mono HB.out.size))
      replace HG := Lib.hid (HG.out.below hb)
      replace HT := Lib.hid (HT.out.below hb)
      replace K3 := Lib.hid (K3.out.ext hb)
      replace K4 := Lib.hid (K4.out.ext hb)
      replace K5 := Lib.hid (K5.out.ext hb)
      replace K7 := Lib.hid (K7.out.ext hb)
      replace K8 := Lib.hid (K8.out.ext hb)
      replace K9 := Lib.hid (K9.out.ext hb)
      replace K11 := Lib.hid (K11.out.ext hb)
      replace K12 := Lib.hid (K12.out.ext hb)
      clear hb
      refine wpGr_call (o := ⟨_, _, _, _, _, _⟩) rfl (by rfl) (fun K hK => ?_)
      go_simp
      refine (Dcg.out u21).mono ?_
      rintro e u22 ⟨rfl, hb⟩
      refine hK _ _ hb ?_
      clear hK K
      replace HB := Lib.hid (HB.out.trans (hb.mono HB.out.size))
      replace HG := Lib.hid (HG.out.below hb)
      replace HT := Lib.hid (HT.out.below hb)
      replace K3 := Lib.hid (K3.out.ext hb)
      replace K4 := Lib.hid (K4.out.ext hb)
      replace K5 := Lib.hid (K5.out.ext hb)
      replace K7 := Lib.hid (K7.out.ext hb)
      replace K8 := Lib.hid (K8.out.ext hb)
      replace K9 := Lib.hid (K9.out.ext hb)
      replace K11 := Lib.hid (K11.out.ext hb)
      replace K12 := Lib.hid (K12.out.ext hb)
      clear hb
      iterate 1 (refine wpGr_read (o := ⟨_, _, _, _, _, _⟩) (v := ?_) rfl (by rfl) ?_ ?_; rotate_left; (intro w' hw'; go_simp; with_reducible rfl); simp only [Act.put, List.setIfInBounds_toArray, List.set_cons_zero, List.set_cons_succ])
      iterate 1 (refine wpGr_read (o := ⟨_, _, _, _, _, _⟩) (v := ?_) rfl (by rfl) ?_ ?_; rotate_left; (intro w' hw'; go_simp; with_reducible rfl); simp only [Act.put, List.setIfInBounds_toArray, List.set_cons_zero, List.set_cons_succ])
      iterate 1 (refine wpGr_read (o := ⟨_, _, _, _, _, _⟩) (v := ?_) rfl (by rfl) ?_ ?_; rotate_left; (intro w' hw'; go_simp; with_reducible rfl); simp only [Act.put, List.setIfInBounds_toArray, List.set_cons_zero, List.set_cons_succ])
      refine wpGr_read (o := ⟨_, _, _, _, _, _⟩) (v := .agg (sc L)) rfl (by rfl) (fun w' hw' => rd_load_sc TS (.tmp 11) rfl g11 L TS (by rfl) arr_TS (K11.out.ext hw')) ?_
      simp only [Act.put, List.setIfInBounds_toArray, List.set_cons_zero, List.set_cons_succ]
      refine wpGr_read (o := ⟨_, _, _, _, _, _⟩) (v := .agg (sc H)) rfl (by rfl) (fun w' hw' => rd_load_sc TS (.tmp 12) rfl g12 H TS (by rfl) arr_TS (K12.out.ext hw')) ?_
      simp only [Act.put, List.setIfInBounds_toArray, List.set_cons_zero, List.set_cons_succ]
      refine wpGr_read (o := ⟨_, _, _, _, _, _⟩) (v := .agg (sc f)) rfl (by rfl) (fun w' hw' => rd_load_sc TS (.tmp 7) rfl g7 f TS (by rfl) arr_TS (K7.out.ext hw')) ?_
      simp only [Act.put, List.setIfInBounds_toArray, List.set_cons_zero, List.set_cons_succ]
      refine wpGr_call (o := ⟨_, _, _, _, _, _⟩) rfl (by rfl) (fun K hK => ?_)
      go_simp
      refine (CE2.out u22).mono ?_
      rintro e u23 ⟨rfl, hb⟩
      refine hK _ _ hb ?_
      clear hK K
      replace HB := Lib.hid (HB.out.trans (hb.mono HB.out.size))
      replace HG := Lib.hid (HG.out.below hb)
      replace HT := Lib.hid (HT.out.below hb)
      replace K3 := Lib.hid (K3.out.ext hb)
      replace K4 := Lib.hid (K4.out.ext hb)
      replace K5 := Lib.hid (K5.out.ext hb)
      replace K7 := Lib.hid (K7.out.ext hb)
      replace K8 := Lib.hid (K8.out.ext hb)
      replace K9 := Lib.hid (K9.out.ext hb)
      replace K11 := Lib.hid (K11.out.ext hb)
      replace K12 := Lib.hid (K12.out.ext hb)
      clear hb
      refine wpGr_read (o := ⟨_, _, _, _, _, _⟩) (v := .bool true) rfl (by rfl) (fun w' _ => rd_eql_sc (.tmp 74) (.tmp 75) TS rfl E2 f (by rfl) (by rfl) S3.out) ?_
      simp only [Act.put, List.setIfInBounds_toArray, List.set_cons_zero, List.set_cons_succ]
      iterate 1 (refine wpGr_read (o := ⟨_, _, _, _, _, _⟩) (v := ?_) rfl (by rfl) ?_ ?_; rotate_left; (intro w' hw'; go_simp; with_reducible rfl); simp only [Act.put, List.setIfInBounds_toArray, List.set_cons_zero, List.set_cons_succ])
      iterate 1 (refine wpGr_read (o := ⟨_, _, _, _, _, _⟩) (v := ?_) rfl (by rfl) ?_ ?_; rotate_left; (intro w' hw'; go_simp; with_reducible rfl); simp only [Act.put, List.setIfInBounds_toArray, List.set_cons_zero, List.set_cons_succ])
      refine wpGr_read (o := ⟨_, _, _, _, _, _⟩) (v := .agg (sc L)) rfl (by rfl) (fun w' hw' => rd_load_sc TS (.tmp 11) rfl g11 L TS (by rfl) arr_TS (K11.out.ext hw')) ?_
      simp only [Act.put, List.setIfInBounds_toArray, List.set_cons_zero, List.set_cons_succ]
      refine wpGr_read (o := ⟨_, _, _, _, _, _⟩) (v := .agg (sc H)) rfl (by rfl) (fun w' hw' => rd_load_sc TS (.tmp 12) rfl g12 H TS (by rfl) arr_TS (K12.out.ext hw')) ?_
      simp only [Act.put, List.setIfInBounds_toArray, List.set_cons_zero, List.set_cons_succ]
      refine wpGr_read (o := ⟨_, _, _, _, _, _⟩) (v := .agg (sc f)) rfl (by rfl) (fun w' hw' => rd_load_sc TS (.tmp 7) rfl g7 f TS (by rfl) arr_TS (K7.out.ext hw')) ?_
      simp only [Act.put, List.setIfInBounds_toArray, List.set_cons_zero, List.set_cons_succ]
      refine wpGr_call (o := ⟨_, _, _, _, _, _⟩) rfl (by rfl) (fun K hK => ?_)
      go_simp
      refine (DcL.out u23).mono ?_
      rintro e u24 ⟨rfl, hb⟩
      refine hK _ _ hb ?_
      clear hK K
      replace HB := Lib.hid (HB.out.trans (hb.mono HB.out.size))
      replace HG := Lib.hid (HG.out.below hb)
      replace HT := Lib.hid (HT.out.below hb)
      replace K3 := Lib.hid (K3.out.ext hb)
      replace K4 := Lib.hid (K4.out.ext hb)
      replace K5 := Lib.hid (K5.out.ext hb)
      replace K7 := Lib.hid (K7.out.ext hb)
      replace K8 := Lib.hid (K8.out.ext hb)
      replace K9 := Lib.hid (K9.out.ext hb)
      replace K11 := Lib.hid (K11.out.ext hb)
      replace K12 := Lib.hid (K12.out.ext hb)
      clear hb
      refine wpGr_call (o := ⟨_, _, _, _, _, _⟩) rfl (by rfl) (fun K hK => ?_)
      go_simp
      refine (DcH.out u24).mono ?_
      rintro e u25 ⟨rfl, hb⟩
      refine hK _ _ hb ?_
      clear hK K
      replace HB := Lib.hid (HB.out.trans (hb.mono HB.out.size))
      replace HG := Lib.hid (HG.out.below hb)
      replace HT := Lib.hid (HT.out.below hb)
      replace K3 := Lib.hid (K3.out.ext hb)
      replace K4 := Lib.hid (K4.out.ext hb)
      replace K5 := Lib.hid (K5.out.ext hb)
      replace K7 := Lib.hid (K7.out.ext hb)
      replace K8 := Lib.hid (K8.out.ext hb)
      replace K9 := Lib.hid (K9.out.ext hb)
      replace K11 := Lib.hid (K11.out.ext hb)
      replace K12 := Lib.hid (K12.out.ext hb)
      clear hb
      iterate 1 (refine wpGr_read (o := ⟨_, _, _, _, _, _⟩) (v := ?_) rfl (by rfl) ?_ ?_; rotate_left; (intro w' hw'; go_simp; with_reducible rfl); simp only [Act.put, List.setIfInBounds_toArray, List.set_cons_zero, List.set_cons_succ])
      refine wpGr_call (o := ⟨_, _, _, _, _, _⟩) rfl (by rfl) (fun K hK => ?_)
      go_simp
      refine (Dcf.out u25).mono ?_
      rintro e u26 ⟨rfl, hb⟩
      refine hK _ _ hb ?_
      clear hK K
      replace HB := Lib.hid (HB.out.trans (hb.mono HB.out.size))
      replace HG := Lib.hid (HG.out.below hb)
      replace HT := Lib.hid (HT.out.below hb)
      replace K3 := Lib.hid (K3.out.ext hb)
      replace K4 := Lib.hid (K4.out.ext hb)
      replace K5 := Lib.hid (K5.out.ext hb)
      replace K7 := Lib.hid (K7.out.ext hb)
      replace K8 := Lib.hid (K8.out.ext hb)
      replace K9 := Lib.hid (K9.out.ext hb)
      replace K11 := Lib.hid (K11.out.ext hb)
      replace K12 := Lib.hid (K12.out.ext hb)
      clear hb
      iterate 1 (refine wpGr_read (o := ⟨_, _, _, _, _, _⟩) (v := ?_) rfl (by rfl) ?_ ?_; rotate_left; (intro w' hw'; go_simp; with_reducible rfl); simp only [Act.put, List.setIfInBounds_toArray, List.set_cons_zero, List.set_cons_succ])
      iterate 1 (refine wpGr_read (o := ⟨_, _, _, _, _, _⟩) (v := ?_) rfl (by rfl) ?_ ?_; rotate_left; (intro w' hw'; go_simp; with_reducible rfl); simp only [Act.put, List.setIfInBounds_toArray, List.set_cons_zero, List.set_cons_succ])
      iterate 1 (refine wpGr_read (o := ⟨_, _, _, _, _, _⟩) (v := ?_) rfl (by rfl) ?_ ?_; rotate_left; (intro w' hw'; go_simp; with_reducible rfl); simp only [Act.put, List.setIfInBounds_toArray, List.set_cons_zero, List.set_cons_succ])
      iterate 1 (refine wpGr_read (o := ⟨_, _, _, _, _, _⟩) (v := ?_) rfl (by rfl) ?_ ?_; rotate_left; (intro w' hw'; go_simp; with_reducible rfl); simp only [Act.put, List.setIfInBounds_toArray, List.set_cons_zero, List.set_cons_succ])
      iterate 1 (refine wpGr_read (o := ⟨_, _, _, _, _, _⟩) (v := ?_) rfl (by rfl) ?_ ?_; rotate_left; (intro w' hw'; go_simp; with_reducible rfl); simp only [Act.put, List.setIfInBounds_toArray, List.set_cons_zero, List.set_cons_succ])
      refine wpGr_call (o := ⟨_, _, _, _, _, _⟩) rfl (by rfl) (fun K hK => ?_)
      go_simp
      refine (CB.out u26).mono ?_
      rintro e u27 ⟨rfl, hb⟩
      refine hK _ _ hb ?_
      clear hK K
      replace HB := Lib.hid (HB.out.trans (hb.mono HB.out.size))
      replace HG := Lib.hid (HG.out.below hb)
      replace HT := Lib.hid (HT.out.below hb)
      replace K3 := Lib.hid (K3.out.ext hb)
      replace K4 := Lib.hid (K4.out.ext hb)
      replace K5 := Lib.hid (K5.out.ext hb)
      replace K7 := Lib.hid (K7.out.ext hb)
      replace K8 := Lib.hid (K8.out.ext hb)
      replace K9 := Lib.hid (K9.out.ext hb)
      replace K11 := Lib.hid (K11.out.ext hb)
      replace K12 := Lib.hid (K12.out.ext hb)
      clear hb
      refine wpGr_call (o := ⟨_, _, _, _, _, _⟩) rfl (by rfl) (fun K hK => ?_)
      go_simp
      refine (DcN.out u27).mono ?_
      rintro e u28 ⟨rfl, hb⟩
      refine hK _ _ hb ?_
      clear hK K
      replace HB := Lib.hid (HB.out.trans (hb.mono HB.out.size))
      replace HG := Lib.hid (HG.out.below hb)
      replace HT := Lib.hid (HT.out.below hb)
      replace K3 := Lib.hid (K3.out.ext hb)
      replace K4 := Lib.hid (K4.out.ext hb)
      replace K5 := Lib.hid (K5.out.ext hb)
      replace K7 := Lib.hid (K7.out.ext hb)
      replace K8 := Lib.hid (K8.out.ext hb)
      replace K9 := Lib.hid (K9.out.ext hb)
      replace K11 := Lib.hid (K11.out.ext hb)
      replace K12 := Lib.hid (K12.out.ext hb)
      clear hb
      iterate 1 (refine wpGr_read (o := ⟨_, _, _, _, _, _⟩) (v := ?_) rfl (by rfl) ?_ ?_; rotate_left; (intro w' hw'; go_simp; with_reducible rfl); simp only [Act.put, List.setIfInBounds_toArray, List.set_cons_zero, List.set_cons_succ])
      iterate 1 (refine wpGr_read (o := ⟨_, _, _, _, _, _⟩) (v := ?_) rfl (by rfl) ?_ ?_; rotate_left; (intro w' hw'; go_simp; with_reducible rfl); simp only [Act.put, List.setIfInBounds_toArray, List.set_cons_zero, List.set_cons_succ])
      iterate 1 (refine wpGr_read (o := ⟨_, _, _, _, _, _⟩) (v := ?_) rfl (by rfl) ?_ ?_; rotate_left; (intro w' hw'; go_simp; with_reducible rfl); simp only [Act.put, List.setIfInBounds_toArray, List.set_cons_zero, List.set_cons_succ])
      refine wpGr_call (o := ⟨_, _, _, _, _, _⟩) rfl (by rfl) (fun K hK => ?_)
      go_simp
      refine (zsure_any u28 HG.out HT.out).mono ?_
      rintro e u29 ⟨rfl, hb⟩
      refine hK _ _ hb ?_
      clear hK K
      replace HB := Lib.hid (HB.out.trans (hb.mono HB.out.size))
      replace HG := Lib.hid (HG.out.below hb)
      replace HT := Lib.hid (HT.out.below hb)
      replace K3 := Lib.hid (K3.out.ext hb)
      replace K4 := Lib.hid (K4.out.ext hb)
      replace K5 := Lib.hid (K5.out.ext hb)
      replace K7 := Lib.hid (K7.out.ext hb)
      replace K8 := Lib.hid (K8.out.ext hb)
      replace K9 := Lib.hid (K9.out.ext hb)
      replace K11 := Lib.hid (K11.out.ext hb)
      replace K12 := Lib.hid (K12.out.ext hb)
      clear hb
      iterate 1 (refine wpGr_read (o := ⟨_, _, _, _, _, _⟩) (v := ?_) rfl (by rfl) ?_ ?_; rotate_left; (intro w' hw'; go_simp; with_reducible rfl); simp only [Act.put, List.setIfInBounds_toArray, List.set_cons_zero, List.set_cons_succ])
      iterate 1 (refine wpGr_read (o := ⟨_, _, _, _, _, _⟩) (v := ?_) rfl (by rfl) ?_ ?_; rotate_left; (intro w' hw'; go_simp; with_reducible rfl); simp only [Act.put, List.setIfInBounds_toArray, List.set_cons_zero, List.set_cons_succ])
      refine wpGr_done ?_
      go_wp2
      go_ret
      exact ⟨rfl, HB.out⟩
end Go.Proofs.YtkokcmjpobfkkaaDoor
