/-
  BitsetTells: the law's walk (mktells17.py).
-/
import Derived.Test.YtkokcmjpobfkkaaDoorTellMath
import Derived.Test.YtkokcmjpobfkkaaDoorGt
import Derived.Deep.DeepCutAuto
namespace Go.Proofs.YtkokcmjpobfkkaaDoor
open Go Go.RowKit

set_option maxRecDepth 100000 in
set_option maxHeartbeats 8000000 in
theorem tells_any (f g : Nat → Bool) (x : Int) (w : World) (hx1 : -9223372036854775808 ≤ x) (hx2 : x ≤ 9223372036854775807) (hg : Hg w) (hT : TabIn w) : Calls Tryd.prog 3 #[.agg (sc f), .agg (sc g), .int .i64 x] w fun e w' => e = .returned (.bool true) ∧ Below w.heap.size w w' := by
  have HGw := Lib.hid hg
  have HTw := Lib.hid hT
  have HB := Lib.hid (Below.refl w.heap.size w)
  clear hg hT
  obtain ⟨FA, hFA⟩ : ∃ F : Nat → Bool, (fun m => f m && g m) = F := ⟨_, rfl⟩
  have pFA : ∀ m, FA m = (f m && g m) := fun m => by rw [← hFA]
  have cFA := fun w => both_any f g w
  rw [hFA] at cFA
  have CFA := Lib.hid cFA
  clear cFA
  obtain ⟨FO, hFO⟩ : ∃ F : Nat → Bool, (fun m => f m || g m) = F := ⟨_, rfl⟩
  have pFO : ∀ m, FO m = (f m || g m) := fun m => by rw [← hFO]
  have cFO := fun w => either_any f g w
  rw [hFO] at cFO
  have CFO := Lib.hid cFO
  clear cFO
  obtain ⟨FL, hFL⟩ : ∃ F : Nat → Bool, (fun m => f m && !g m) = F := ⟨_, rfl⟩
  have pFL : ∀ m, FL m = (f m && !g m) := fun m => by rw [← hFL]
  have cFL := fun w => less_any f g w
  rw [hFL] at cFL
  have CFL := Lib.hid cFL
  clear cFL
  obtain ⟨FB, hFB⟩ : ∃ F : Nat → Bool, belowR x = F := ⟨_, rfl⟩
  have pFB : ∀ m, FB m = decide ((m : Int) < x) := fun m => by rw [← hFB, belowR]
  have cFB := fun w => below_any x w hx2
  rw [hFB] at cFB
  have CFB := Lib.hid cFB
  clear hFB cFB hFA hFO hFL
  have PFA := Lib.hid pFA
  have PFO := Lib.hid pFO
  have PFL := Lib.hid pFL
  have PFB := Lib.hid pFB
  clear pFA pFO pFL pFB
  obtain ⟨C, hC⟩ : ∃ c, cnt f 1024 = c := ⟨_, rfl⟩
  have bC := cnt_le f 1024
  have dC := fun w => count_any f w
  rw [hC] at bC dC
  have DC := Lib.hid dC
  clear dC
  have hl := (eI_len f 1024).trans hC
  have call := fun w h => all_any f w h
  have cref := fun w => refAll_any f w
  generalize eI f 1024 = LT at *
  have HLen := Lib.hid hl
  have Call := Lib.hid call
  have Cref := Lib.hid cref
  clear hC hl call cref
  have cw := fun w => with_any f x w
  have co := fun w => without_any f x w
  have hin := fun (n : Nat) (h : n < 1024) => bc_with f n h
  have hout := fun (n : Nat) (h : n < 1024) => bc_out f n h
  have hfar := bc_far f x
  obtain ⟨WI, hWI⟩ : ∃ F : Nat → Bool, withR f x = F := ⟨_, rfl⟩
  obtain ⟨WO, hWO⟩ : ∃ F : Nat → Bool, outR f x = F := ⟨_, rfl⟩
  rw [hWI] at cw
  rw [hWO] at co
  rw [hWI, hWO] at hfar
  have Hin : Hid (∀ n : Nat, x = (n : Int) → n < 1024 → (bc f).setIfInBounds n (.bool true) = bc WI ∧ (bc f).setIfInBounds n (.bool false) = bc WO) := fun n e h => by
    rw [← hWI, ← hWO, e]; exact ⟨hin n h, hout n h⟩
  have Hfar := Lib.hid hfar
  have CW := Lib.hid cw
  have CO := Lib.hid co
  have CHas := Lib.hid (fun w => has_any f x w)
  have CSI := Lib.hid (fun w => set_any WI w)
  have CSO := Lib.hid (fun w => set_any WO w)
  have CSA := Lib.hid (fun w => set_any FA w)
  have CSR := Lib.hid (fun w => set_any FO w)
  have CSL := Lib.hid (fun w => set_any FL w)
  have CSB := Lib.hid (fun w => set_any FB w)
  have COf := Lib.hid (fun w => of_any f w)
  have COg := Lib.hid (fun w => of_any g w)
  have HofA := Lib.hid (fun k => of_step FA k)
  have HofO := Lib.hid (fun k => of_step FO k)
  have HofL := Lib.hid (fun k => of_step FL k)
  have HofB := Lib.hid (fun k => of_step FB k)
  have HoaA := Lib.hid (of_all FA)
  have HoaO := Lib.hid (of_all FO)
  have HoaL := Lib.hid (of_all FL)
  have HoaB := Lib.hid (of_all FB)
  have HozA := Lib.hid (of_zero FA)
  have HozO := Lib.hid (of_zero FO)
  have HozL := Lib.hid (of_zero FL)
  have HozB := Lib.hid (of_zero FB)
  have HX1 := Lib.hid hx1
  have HX2 := Lib.hid hx2
  clear hWI hWO cw co hin hout hfar hx1 hx2
  go_enter Tryd.func3, Tryd.ntmps3
  go_wp2_with (first
    | (show wpList _ _ _ (⟨some 3, _, _, _, _, _⟩ :: _) _ _; refine wpList_box_arr rfl TW (.tmp 0) rfl (sc f) (by rfl) ?_; intro g3 v1 hg1 hk1 hb1)
    | (show wpList _ _ _ (⟨some 4, _, _, _, _, _⟩ :: _) _ _; refine wpList_box_arr rfl TW (.tmp 1) rfl (sc g) (by rfl) ?_; intro g4 v2 hg2 hk2 hb2))
  have hb : Ext w v2 := hb1.trans (hb2.mono hb1.size)
  replace HB := Lib.hid (HB.out.trans (hb.mono HB.out.size))
  have K3 := Lib.hid (hk1.ext hb2)
  have K4 := Lib.hid hk2
  clear hb hb1 hb2 hk1 hk2 hg1 hg2
  go_upto_region 1 with fail
  go_cut [7, 8] (fun s7 s8 wx => ∃ g7 g8 : Nat, s7 = .pointer (some ⟨g7, 0, none⟩) ∧ s8 = .pointer (some ⟨g8, 0, none⟩) ∧ Hid (Blk wx g7 TB (bc f) ∧ Blk wx g8 TB (bc g)) ∧ Hid (Below v2.heap.size v2 wx))
  case first => as_aux_lemma =>
    refine wp_region_gs (F := fun i => v2.heap.size ≤ i) (.rd 0 (.rd 2 (.three 1 (.three 3 (.two 4 (.call 5 (.call 6 (.call 7 .done))) 5 (.call 4 (.call 6 (.call 7 .done)))) 4 (.two 3 (.call 5 (.call 6 (.call 7 .done))) 5 (.call 3 (.call 6 (.call 7 .done)))) 5 (.two 3 (.call 4 (.call 6 (.call 7 .done))) 4 (.call 3 (.call 6 (.call 7 .done))))) 4 (.two 1 (.two 3 (.call 5 (.call 6 (.call 7 .done))) 5 (.call 3 (.call 6 (.call 7 .done)))) 5 (.call 1 (.call 3 (.call 6 (.call 7 .done))))) 5 (.two 1 (.two 3 (.call 4 (.call 6 (.call 7 .done))) 4 (.call 3 (.call 6 (.call 7 .done)))) 4 (.call 1 (.call 3 (.call 6 (.call 7 .done)))))))) (by kernel_rfl) (by kernel_rfl) (by kernel_rfl) (by kernel_rfl) (fun _ _ _ _ _ h => h) ?_
    have hb : Ext v2 v2.drew := Ext.drew _
    have HN : Hid (v2.drew.heap.size = v2.heap.size) := rfl
    have HD := Lib.hid hb
    replace HB := Lib.hid (HB.out.trans (hb.mono HB.out.size))
    replace K3 := Lib.hid (K3.out.ext hb)
    replace K4 := Lib.hid (K4.out.ext hb)
    clear hb
    have HX : Hid (Turn (fun i => v2.heap.size ≤ i) v2.drew v2.drew) := Turn.refl _ _
    generalize v2.drew = u1 at *
    refine wpGs_read (o := ⟨_, _, _, _, _, _⟩) (v := .agg (sc f)) rfl (by rfl) (fun w' hw' => rd_load_sc TW (.tmp 3) rfl g3 f TW (by rfl) arr_TW (K3.out.turn hw' (fun (e : v2.heap.size ≤ g3) => Nat.not_le.2 (Nat.lt_of_lt_of_eq K3.out.lt HN.out) e))) ?_
    simp only [Act.put, List.setIfInBounds_toArray, List.set_cons_zero, List.set_cons_succ]
    refine wpGs_read (o := ⟨_, _, _, _, _, _⟩) (v := .agg (sc g)) rfl (by rfl) (fun w' hw' => rd_load_sc TW (.tmp 4) rfl g4 g TW (by rfl) arr_TW (K4.out.turn hw' (fun (e : v2.heap.size ≤ g4) => Nat.not_le.2 (Nat.lt_of_lt_of_eq K4.out.lt HN.out) e))) ?_
    simp only [Act.put, List.setIfInBounds_toArray, List.set_cons_zero, List.set_cons_succ]
    refine ⟨?_, ?_, ?_⟩
    · skip
      refine stepS_call (o := ⟨_, _, _, _, _, _⟩) rfl (by rfl) (fun K hK => ?_)
      go_simp
      refine (COf.out u1).mono ?_
      rintro e u2 ⟨rfl, hb⟩
      refine hK _ _ (Turn.ofBelow hb) ?_
      clear hK K
      replace HX := Lib.hid (HX.out.trans (Turn.ofBelow hb))
      clear hb
      refine ⟨?_, ?_, ?_⟩
      · skip
        refine stepS_call (o := ⟨_, _, _, _, _, _⟩) rfl (by rfl) (fun K hK => ?_)
        go_simp
        refine (COg.out u2).mono ?_
        rintro e u3 ⟨rfl, hb⟩
        refine hK _ _ (Turn.ofBelow hb) ?_
        clear hK K
        replace HX := Lib.hid (HX.out.trans (Turn.ofBelow hb))
        clear hb
        refine ⟨?_, ?_⟩
        · skip
          refine stepS_call (o := ⟨_, _, _, _, _, _⟩) rfl (by rfl) (fun K hK => ?_)
          refine wp_alloc_arr TB rfl arrz_TB ?_
          intro g7 u4 hg hk hb
          refine hK _ _ (Turn.ofBelow hb) ?_
          clear hK K
          simp only [Act.put, List.setIfInBounds_toArray, List.set_cons_zero, List.set_cons_succ]
          have G7 : Hid (v2.heap.size ≤ g7) := Nat.le_trans (Nat.le_of_eq HN.out.symm) (Nat.le_trans HX.out.size hg)
          replace HX := Lib.hid (HX.out.trans (Turn.ofBelow hb))
          have K7 := Lib.hid hk
          clear hk hg hb
          refine stepS_call (o := ⟨_, _, _, _, _, _⟩) rfl (by rfl) (fun K hK => ?_)
          refine wp_alloc_arr TB rfl arrz_TB ?_
          intro g8 u5 hg hk hb
          refine hK _ _ (Turn.ofBelow hb) ?_
          clear hK K
          simp only [Act.put, List.setIfInBounds_toArray, List.set_cons_zero, List.set_cons_succ]
          have G8 : Hid (v2.heap.size ≤ g8) := Nat.le_trans (Nat.le_of_eq HN.out.symm) (Nat.le_trans HX.out.size hg)
          have N8_7 : Hid (g8 ≠ g7) := (Nat.ne_of_lt (Nat.lt_of_lt_of_le K7.out.lt hg)).symm
          replace HX := Lib.hid (HX.out.trans (Turn.ofBelow hb))
          replace K7 := Lib.hid (K7.out.ext hb)
          have K8 := Lib.hid hk
          clear hk hg hb
          refine stepS_call (o := ⟨_, _, _, _, _, _⟩) rfl (by rfl) (fun K hK => ?_)
          refine wp_store_bc (.tmp 7) (.tmp 21) rfl g7 f _ (by rfl) (by rfl) K7.out ?_
          intro u6 hk ht _
          have hX : Turn (fun i => v2.heap.size ≤ i) u5 u6 := ht.mono (fun i hi _ => by subst hi; exact G7.out)
          refine hK _ _ hX ?_
          clear hK K
          simp only [Act.put]
          replace HX := Lib.hid (HX.out.trans hX)
          replace K7 := Lib.hid hk
          replace K8 := Lib.hid (K8.out.turn ht (fun e => N8_7.out e))
          clear hk ht hX
          refine stepS_call (o := ⟨_, _, _, _, _, _⟩) rfl (by rfl) (fun K hK => ?_)
          refine wp_store_bc (.tmp 8) (.tmp 23) rfl g8 g _ (by rfl) (by rfl) K8.out ?_
          intro u7 hk ht _
          have hX : Turn (fun i => v2.heap.size ≤ i) u6 u7 := ht.mono (fun i hi _ => by subst hi; exact G8.out)
          refine hK _ _ hX ?_
          clear hK K
          simp only [Act.put]
          replace HX := Lib.hid (HX.out.trans hX)
          replace K7 := Lib.hid (K7.out.turn ht (fun e => N8_7.out e.symm))
          replace K8 := Lib.hid hk
          clear hk ht hX
          refine wpGs_done ?_
          go_wp2
          go_meet
          exact ⟨g7, g8, rfl, rfl, ⟨K7.out, K8.out⟩, Below.trans HD.out (HX.out.below (B := v2.heap.size) (Nat.le_of_eq HN.out.symm) (fun i hi => hi))⟩
        · skip
          refine stepS_call (o := ⟨_, _, _, _, _, _⟩) rfl (by rfl) (fun K hK => ?_)
          refine wp_alloc_arr TB rfl arrz_TB ?_
          intro g8 u4 hg hk hb
          refine hK _ _ (Turn.ofBelow hb) ?_
          clear hK K
          simp only [Act.put, List.setIfInBounds_toArray, List.set_cons_zero, List.set_cons_succ]
          have G8 : Hid (v2.heap.size ≤ g8) := Nat.le_trans (Nat.le_of_eq HN.out.symm) (Nat.le_trans HX.out.size hg)
          replace HX := Lib.hid (HX.out.trans (Turn.ofBelow hb))
          have K8 := Lib.hid hk
          clear hk hg hb
          refine stepS_call (o := ⟨_, _, _, _, _, _⟩) rfl (by rfl) (fun K hK => ?_)
          refine wp_alloc_arr TB rfl arrz_TB ?_
          intro g7 u5 hg hk hb
          refine hK _ _ (Turn.ofBelow hb) ?_
          clear hK K
          simp only [Act.put, List.setIfInBounds_toArray, List.set_cons_zero, List.set_cons_succ]
          have G7 : Hid (v2.heap.size ≤ g7) := Nat.le_trans (Nat.le_of_eq HN.out.symm) (Nat.le_trans HX.out.size hg)
          have N7_8 : Hid (g7 ≠ g8) := (Nat.ne_of_lt (Nat.lt_of_lt_of_le K8.out.lt hg)).symm
          replace HX := Lib.hid (HX.out.trans (Turn.ofBelow hb))
          replace K8 := Lib.hid (K8.out.ext hb)
          have K7 := Lib.hid hk
          clear hk hg hb
          refine stepS_call (o := ⟨_, _, _, _, _, _⟩) rfl (by rfl) (fun K hK => ?_)
          refine wp_store_bc (.tmp 7) (.tmp 21) rfl g7 f _ (by rfl) (by rfl) K7.out ?_
          intro u6 hk ht _
          have hX : Turn (fun i => v2.heap.size ≤ i) u5 u6 := ht.mono (fun i hi _ => by subst hi; exact G7.out)
          refine hK _ _ hX ?_
          clear hK K
          simp only [Act.put]
          replace HX := Lib.hid (HX.out.trans hX)
          replace K8 := Lib.hid (K8.out.turn ht (fun e => N7_8.out e.symm))
          replace K7 := Lib.hid hk
          clear hk ht hX
          refine stepS_call (o := ⟨_, _, _, _, _, _⟩) rfl (by rfl) (fun K hK => ?_)
          refine wp_store_bc (.tmp 8) (.tmp 23) rfl g8 g _ (by rfl) (by rfl) K8.out ?_
          intro u7 hk ht _
          have hX : Turn (fun i => v2.heap.size ≤ i) u6 u7 := ht.mono (fun i hi _ => by subst hi; exact G8.out)
          refine hK _ _ hX ?_
          clear hK K
          simp only [Act.put]
          replace HX := Lib.hid (HX.out.trans hX)
          replace K8 := Lib.hid hk
          replace K7 := Lib.hid (K7.out.turn ht (fun e => N7_8.out e))
          clear hk ht hX
          refine wpGs_done ?_
          go_wp2
          go_meet
          exact ⟨g7, g8, rfl, rfl, ⟨K7.out, K8.out⟩, Below.trans HD.out (HX.out.below (B := v2.heap.size) (Nat.le_of_eq HN.out.symm) (fun i hi => hi))⟩
      · skip
        refine stepS_call (o := ⟨_, _, _, _, _, _⟩) rfl (by rfl) (fun K hK => ?_)
        refine wp_alloc_arr TB rfl arrz_TB ?_
        intro g7 u3 hg hk hb
        refine hK _ _ (Turn.ofBelow hb) ?_
        clear hK K
        simp only [Act.put, List.setIfInBounds_toArray, List.set_cons_zero, List.set_cons_succ]
        have G7 : Hid (v2.heap.size ≤ g7) := Nat.le_trans (Nat.le_of_eq HN.out.symm) (Nat.le_trans HX.out.size hg)
        replace HX := Lib.hid (HX.out.trans (Turn.ofBelow hb))
        have K7 := Lib.hid hk
        clear hk hg hb
        refine ⟨?_, ?_⟩
        · skip
          refine stepS_call (o := ⟨_, _, _, _, _, _⟩) rfl (by rfl) (fun K hK => ?_)
          go_simp
          refine (COg.out u3).mono ?_
          rintro e u4 ⟨rfl, hb⟩
          refine hK _ _ (Turn.ofBelow hb) ?_
          clear hK K
          replace HX := Lib.hid (HX.out.trans (Turn.ofBelow hb))
          replace K7 := Lib.hid (K7.out.ext hb)
          clear hb
          refine stepS_call (o := ⟨_, _, _, _, _, _⟩) rfl (by rfl) (fun K hK => ?_)
          refine wp_alloc_arr TB rfl arrz_TB ?_
          intro g8 u5 hg hk hb
          refine hK _ _ (Turn.ofBelow hb) ?_
          clear hK K
          simp only [Act.put, List.setIfInBounds_toArray, List.set_cons_zero, List.set_cons_succ]
          have G8 : Hid (v2.heap.size ≤ g8) := Nat.le_trans (Nat.le_of_eq HN.out.symm) (Nat.le_trans HX.out.size hg)
          have N8_7 : Hid (g8 ≠ g7) := (Nat.ne_of_lt (Nat.lt_of_lt_of_le K7.out.lt hg)).symm
          replace HX := Lib.hid (HX.out.trans (Turn.ofBelow hb))
          replace K7 := Lib.hid (K7.out.ext hb)
          have K8 := Lib.hid hk
          clear hk hg hb
          refine stepS_call (o := ⟨_, _, _, _, _, _⟩) rfl (by rfl) (fun K hK => ?_)
          refine wp_store_bc (.tmp 7) (.tmp 21) rfl g7 f _ (by rfl) (by rfl) K7.out ?_
          intro u6 hk ht _
          have hX : Turn (fun i => v2.heap.size ≤ i) u5 u6 := ht.mono (fun i hi _ => by subst hi; exact G7.out)
          refine hK _ _ hX ?_
          clear hK K
          simp only [Act.put]
          replace HX := Lib.hid (HX.out.trans hX)
          replace K7 := Lib.hid hk
          replace K8 := Lib.hid (K8.out.turn ht (fun e => N8_7.out e))
          clear hk ht hX
          refine stepS_call (o := ⟨_, _, _, _, _, _⟩) rfl (by rfl) (fun K hK => ?_)
          refine wp_store_bc (.tmp 8) (.tmp 23) rfl g8 g _ (by rfl) (by rfl) K8.out ?_
          intro u7 hk ht _
          have hX : Turn (fun i => v2.heap.size ≤ i) u6 u7 := ht.mono (fun i hi _ => by subst hi; exact G8.out)
          refine hK _ _ hX ?_
          clear hK K
          simp only [Act.put]
          replace HX := Lib.hid (HX.out.trans hX)
          replace K7 := Lib.hid (K7.out.turn ht (fun e => N8_7.out e.symm))
          replace K8 := Lib.hid hk
          clear hk ht hX
          refine wpGs_done ?_
          go_wp2
          go_meet
          exact ⟨g7, g8, rfl, rfl, ⟨K7.out, K8.out⟩, Below.trans HD.out (HX.out.below (B := v2.heap.size) (Nat.le_of_eq HN.out.symm) (fun i hi => hi))⟩
        · skip
          refine stepS_call (o := ⟨_, _, _, _, _, _⟩) rfl (by rfl) (fun K hK => ?_)
          refine wp_alloc_arr TB rfl arrz_TB ?_
          intro g8 u4 hg hk hb
          refine hK _ _ (Turn.ofBelow hb) ?_
          clear hK K
          simp only [Act.put, List.setIfInBounds_toArray, List.set_cons_zero, List.set_cons_succ]
          have G8 : Hid (v2.heap.size ≤ g8) := Nat.le_trans (Nat.le_of_eq HN.out.symm) (Nat.le_trans HX.out.size hg)
          have N8_7 : Hid (g8 ≠ g7) := (Nat.ne_of_lt (Nat.lt_of_lt_of_le K7.out.lt hg)).symm
          replace HX := Lib.hid (HX.out.trans (Turn.ofBelow hb))
          replace K7 := Lib.hid (K7.out.ext hb)
          have K8 := Lib.hid hk
          clear hk hg hb
          refine stepS_call (o := ⟨_, _, _, _, _, _⟩) rfl (by rfl) (fun K hK => ?_)
          go_simp
          refine (COg.out u4).mono ?_
          rintro e u5 ⟨rfl, hb⟩
          refine hK _ _ (Turn.ofBelow hb) ?_
          clear hK K
          replace HX := Lib.hid (HX.out.trans (Turn.ofBelow hb))
          replace K7 := Lib.hid (K7.out.ext hb)
          replace K8 := Lib.hid (K8.out.ext hb)
          clear hb
          refine stepS_call (o := ⟨_, _, _, _, _, _⟩) rfl (by rfl) (fun K hK => ?_)
          refine wp_store_bc (.tmp 7) (.tmp 21) rfl g7 f _ (by rfl) (by rfl) K7.out ?_
          intro u6 hk ht _
          have hX : Turn (fun i => v2.heap.size ≤ i) u5 u6 := ht.mono (fun i hi _ => by subst hi; exact G7.out)
          refine hK _ _ hX ?_
          clear hK K
          simp only [Act.put]
          replace HX := Lib.hid (HX.out.trans hX)
          replace K7 := Lib.hid hk
          replace K8 := Lib.hid (K8.out.turn ht (fun e => N8_7.out e))
          clear hk ht hX
          refine stepS_call (o := ⟨_, _, _, _, _, _⟩) rfl (by rfl) (fun K hK => ?_)
          refine wp_store_bc (.tmp 8) (.tmp 23) rfl g8 g _ (by rfl) (by rfl) K8.out ?_
          intro u7 hk ht _
          have hX : Turn (fun i => v2.heap.size ≤ i) u6 u7 := ht.mono (fun i hi _ => by subst hi; exact G8.out)
          refine hK _ _ hX ?_
          clear hK K
          simp only [Act.put]
          replace HX := Lib.hid (HX.out.trans hX)
          replace K7 := Lib.hid (K7.out.turn ht (fun e => N8_7.out e.symm))
          replace K8 := Lib.hid hk
          clear hk ht hX
          refine wpGs_done ?_
          go_wp2
          go_meet
          exact ⟨g7, g8, rfl, rfl, ⟨K7.out, K8.out⟩, Below.trans HD.out (HX.out.below (B := v2.heap.size) (Nat.le_of_eq HN.out.symm) (fun i hi => hi))⟩
      · skip
        refine stepS_call (o := ⟨_, _, _, _, _, _⟩) rfl (by rfl) (fun K hK => ?_)
        refine wp_alloc_arr TB rfl arrz_TB ?_
        intro g8 u3 hg hk hb
        refine hK _ _ (Turn.ofBelow hb) ?_
        clear hK K
        simp only [Act.put, List.setIfInBounds_toArray, List.set_cons_zero, List.set_cons_succ]
        have G8 : Hid (v2.heap.size ≤ g8) := Nat.le_trans (Nat.le_of_eq HN.out.symm) (Nat.le_trans HX.out.size hg)
        replace HX := Lib.hid (HX.out.trans (Turn.ofBelow hb))
        have K8 := Lib.hid hk
        clear hk hg hb
        refine ⟨?_, ?_⟩
        · skip
          refine stepS_call (o := ⟨_, _, _, _, _, _⟩) rfl (by rfl) (fun K hK => ?_)
          go_simp
          refine (COg.out u3).mono ?_
          rintro e u4 ⟨rfl, hb⟩
          refine hK _ _ (Turn.ofBelow hb) ?_
          clear hK K
          replace HX := Lib.hid (HX.out.trans (Turn.ofBelow hb))
          replace K8 := Lib.hid (K8.out.ext hb)
          clear hb
          refine stepS_call (o := ⟨_, _, _, _, _, _⟩) rfl (by rfl) (fun K hK => ?_)
          refine wp_alloc_arr TB rfl arrz_TB ?_
          intro g7 u5 hg hk hb
          refine hK _ _ (Turn.ofBelow hb) ?_
          clear hK K
          simp only [Act.put, List.setIfInBounds_toArray, List.set_cons_zero, List.set_cons_succ]
          have G7 : Hid (v2.heap.size ≤ g7) := Nat.le_trans (Nat.le_of_eq HN.out.symm) (Nat.le_trans HX.out.size hg)
          have N7_8 : Hid (g7 ≠ g8) := (Nat.ne_of_lt (Nat.lt_of_lt_of_le K8.out.lt hg)).symm
          replace HX := Lib.hid (HX.out.trans (Turn.ofBelow hb))
          replace K8 := Lib.hid (K8.out.ext hb)
          have K7 := Lib.hid hk
          clear hk hg hb
          refine stepS_call (o := ⟨_, _, _, _, _, _⟩) rfl (by rfl) (fun K hK => ?_)
          refine wp_store_bc (.tmp 7) (.tmp 21) rfl g7 f _ (by rfl) (by rfl) K7.out ?_
          intro u6 hk ht _
          have hX : Turn (fun i => v2.heap.size ≤ i) u5 u6 := ht.mono (fun i hi _ => by subst hi; exact G7.out)
          refine hK _ _ hX ?_
          clear hK K
          simp only [Act.put]
          replace HX := Lib.hid (HX.out.trans hX)
          replace K8 := Lib.hid (K8.out.turn ht (fun e => N7_8.out e.symm))
          replace K7 := Lib.hid hk
          clear hk ht hX
          refine stepS_call (o := ⟨_, _, _, _, _, _⟩) rfl (by rfl) (fun K hK => ?_)
          refine wp_store_bc (.tmp 8) (.tmp 23) rfl g8 g _ (by rfl) (by rfl) K8.out ?_
          intro u7 hk ht _
          have hX : Turn (fun i => v2.heap.size ≤ i) u6 u7 := ht.mono (fun i hi _ => by subst hi; exact G8.out)
          refine hK _ _ hX ?_
          clear hK K
          simp only [Act.put]
          replace HX := Lib.hid (HX.out.trans hX)
          replace K8 := Lib.hid hk
          replace K7 := Lib.hid (K7.out.turn ht (fun e => N7_8.out e))
          clear hk ht hX
          refine wpGs_done ?_
          go_wp2
          go_meet
          exact ⟨g7, g8, rfl, rfl, ⟨K7.out, K8.out⟩, Below.trans HD.out (HX.out.below (B := v2.heap.size) (Nat.le_of_eq HN.out.symm) (fun i hi => hi))⟩
        · skip
          refine stepS_call (o := ⟨_, _, _, _, _, _⟩) rfl (by rfl) (fun K hK => ?_)
          refine wp_alloc_arr TB rfl arrz_TB ?_
          intro g7 u4 hg hk hb
          refine hK _ _ (Turn.ofBelow hb) ?_
          clear hK K
          simp only [Act.put, List.setIfInBounds_toArray, List.set_cons_zero, List.set_cons_succ]
          have G7 : Hid (v2.heap.size ≤ g7) := Nat.le_trans (Nat.le_of_eq HN.out.symm) (Nat.le_trans HX.out.size hg)
          have N7_8 : Hid (g7 ≠ g8) := (Nat.ne_of_lt (Nat.lt_of_lt_of_le K8.out.lt hg)).symm
          replace HX := Lib.hid (HX.out.trans (Turn.ofBelow hb))
          replace K8 := Lib.hid (K8.out.ext hb)
          have K7 := Lib.hid hk
          clear hk hg hb
          refine stepS_call (o := ⟨_, _, _, _, _, _⟩) rfl (by rfl) (fun K hK => ?_)
          go_simp
          refine (COg.out u4).mono ?_
          rintro e u5 ⟨rfl, hb⟩
          refine hK _ _ (Turn.ofBelow hb) ?_
          clear hK K
          replace HX := Lib.hid (HX.out.trans (Turn.ofBelow hb))
          replace K8 := Lib.hid (K8.out.ext hb)
          replace K7 := Lib.hid (K7.out.ext hb)
          clear hb
          refine stepS_call (o := ⟨_, _, _, _, _, _⟩) rfl (by rfl) (fun K hK => ?_)
          refine wp_store_bc (.tmp 7) (.tmp 21) rfl g7 f _ (by rfl) (by rfl) K7.out ?_
          intro u6 hk ht _
          have hX : Turn (fun i => v2.heap.size ≤ i) u5 u6 := ht.mono (fun i hi _ => by subst hi; exact G7.out)
          refine hK _ _ hX ?_
          clear hK K
          simp only [Act.put]
          replace HX := Lib.hid (HX.out.trans hX)
          replace K8 := Lib.hid (K8.out.turn ht (fun e => N7_8.out e.symm))
          replace K7 := Lib.hid hk
          clear hk ht hX
          refine stepS_call (o := ⟨_, _, _, _, _, _⟩) rfl (by rfl) (fun K hK => ?_)
          refine wp_store_bc (.tmp 8) (.tmp 23) rfl g8 g _ (by rfl) (by rfl) K8.out ?_
          intro u7 hk ht _
          have hX : Turn (fun i => v2.heap.size ≤ i) u6 u7 := ht.mono (fun i hi _ => by subst hi; exact G8.out)
          refine hK _ _ hX ?_
          clear hK K
          simp only [Act.put]
          replace HX := Lib.hid (HX.out.trans hX)
          replace K8 := Lib.hid hk
          replace K7 := Lib.hid (K7.out.turn ht (fun e => N7_8.out e))
          clear hk ht hX
          refine wpGs_done ?_
          go_wp2
          go_meet
          exact ⟨g7, g8, rfl, rfl, ⟨K7.out, K8.out⟩, Below.trans HD.out (HX.out.below (B := v2.heap.size) (Nat.le_of_eq HN.out.symm) (fun i hi => hi))⟩
    · skip
      refine stepS_call (o := ⟨_, _, _, _, _, _⟩) rfl (by rfl) (fun K hK => ?_)
      refine wp_alloc_arr TB rfl arrz_TB ?_
      intro g7 u2 hg hk hb
      refine hK _ _ (Turn.ofBelow hb) ?_
      clear hK K
      simp only [Act.put, List.setIfInBounds_toArray, List.set_cons_zero, List.set_cons_succ]
      have G7 : Hid (v2.heap.size ≤ g7) := Nat.le_trans (Nat.le_of_eq HN.out.symm) (Nat.le_trans HX.out.size hg)
      replace HX := Lib.hid (HX.out.trans (Turn.ofBelow hb))
      have K7 := Lib.hid hk
      clear hk hg hb
      refine ⟨?_, ?_⟩
      · skip
        refine stepS_call (o := ⟨_, _, _, _, _, _⟩) rfl (by rfl) (fun K hK => ?_)
        go_simp
        refine (COf.out u2).mono ?_
        rintro e u3 ⟨rfl, hb⟩
        refine hK _ _ (Turn.ofBelow hb) ?_
        clear hK K
        replace HX := Lib.hid (HX.out.trans (Turn.ofBelow hb))
        replace K7 := Lib.hid (K7.out.ext hb)
        clear hb
        refine ⟨?_, ?_⟩
        · skip
          refine stepS_call (o := ⟨_, _, _, _, _, _⟩) rfl (by rfl) (fun K hK => ?_)
          go_simp
          refine (COg.out u3).mono ?_
          rintro e u4 ⟨rfl, hb⟩
          refine hK _ _ (Turn.ofBelow hb) ?_
          clear hK K
          replace HX := Lib.hid (HX.out.trans (Turn.ofBelow hb))
          replace K7 := Lib.hid (K7.out.ext hb)
          clear hb
          refine stepS_call (o := ⟨_, _, _, _, _, _⟩) rfl (by rfl) (fun K hK => ?_)
          refine wp_alloc_arr TB rfl arrz_TB ?_
          intro g8 u5 hg hk hb
          refine hK _ _ (Turn.ofBelow hb) ?_
          clear hK K
          simp only [Act.put, List.setIfInBounds_toArray, List.set_cons_zero, List.set_cons_succ]
          have G8 : Hid (v2.heap.size ≤ g8) := Nat.le_trans (Nat.le_of_eq HN.out.symm) (Nat.le_trans HX.out.size hg)
          have N8_7 : Hid (g8 ≠ g7) := (Nat.ne_of_lt (Nat.lt_of_lt_of_le K7.out.lt hg)).symm
          replace HX := Lib.hid (HX.out.trans (Turn.ofBelow hb))
          replace K7 := Lib.hid (K7.out.ext hb)
          have K8 := Lib.hid hk
          clear hk hg hb
          refine stepS_call (o := ⟨_, _, _, _, _, _⟩) rfl (by rfl) (fun K hK => ?_)
          refine wp_store_bc (.tmp 7) (.tmp 21) rfl g7 f _ (by rfl) (by rfl) K7.out ?_
          intro u6 hk ht _
          have hX : Turn (fun i => v2.heap.size ≤ i) u5 u6 := ht.mono (fun i hi _ => by subst hi; exact G7.out)
          refine hK _ _ hX ?_
          clear hK K
          simp only [Act.put]
          replace HX := Lib.hid (HX.out.trans hX)
          replace K7 := Lib.hid hk
          replace K8 := Lib.hid (K8.out.turn ht (fun e => N8_7.out e))
          clear hk ht hX
          refine stepS_call (o := ⟨_, _, _, _, _, _⟩) rfl (by rfl) (fun K hK => ?_)
          refine wp_store_bc (.tmp 8) (.tmp 23) rfl g8 g _ (by rfl) (by rfl) K8.out ?_
          intro u7 hk ht _
          have hX : Turn (fun i => v2.heap.size ≤ i) u6 u7 := ht.mono (fun i hi _ => by subst hi; exact G8.out)
          refine hK _ _ hX ?_
          clear hK K
          simp only [Act.put]
          replace HX := Lib.hid (HX.out.trans hX)
          replace K7 := Lib.hid (K7.out.turn ht (fun e => N8_7.out e.symm))
          replace K8 := Lib.hid hk
          clear hk ht hX
          refine wpGs_done ?_
          go_wp2
          go_meet
          exact ⟨g7, g8, rfl, rfl, ⟨K7.out, K8.out⟩, Below.trans HD.out (HX.out.below (B := v2.heap.size) (Nat.le_of_eq HN.out.symm) (fun i hi => hi))⟩
        · skip
          refine stepS_call (o := ⟨_, _, _, _, _, _⟩) rfl (by rfl) (fun K hK => ?_)
          refine wp_alloc_arr TB rfl arrz_TB ?_
          intro g8 u4 hg hk hb
          refine hK _ _ (Turn.ofBelow hb) ?_
          clear hK K
          simp only [Act.put, List.setIfInBounds_toArray, List.set_cons_zero, List.set_cons_succ]
          have G8 : Hid (v2.heap.size ≤ g8) := Nat.le_trans (Nat.le_of_eq HN.out.symm) (Nat.le_trans HX.out.size hg)
          have N8_7 : Hid (g8 ≠ g7) := (Nat.ne_of_lt (Nat.lt_of_lt_of_le K7.out.lt hg)).symm
          replace HX := Lib.hid (HX.out.trans (Turn.ofBelow hb))
          replace K7 := Lib.hid (K7.out.ext hb)
          have K8 := Lib.hid hk
          clear hk hg hb
          refine stepS_call (o := ⟨_, _, _, _, _, _⟩) rfl (by rfl) (fun K hK => ?_)
          go_simp
          refine (COg.out u4).mono ?_
          rintro e u5 ⟨rfl, hb⟩
          refine hK _ _ (Turn.ofBelow hb) ?_
          clear hK K
          replace HX := Lib.hid (HX.out.trans (Turn.ofBelow hb))
          replace K7 := Lib.hid (K7.out.ext hb)
          replace K8 := Lib.hid (K8.out.ext hb)
          clear hb
          refine stepS_call (o := ⟨_, _, _, _, _, _⟩) rfl (by rfl) (fun K hK => ?_)
          refine wp_store_bc (.tmp 7) (.tmp 21) rfl g7 f _ (by rfl) (by rfl) K7.out ?_
          intro u6 hk ht _
          have hX : Turn (fun i => v2.heap.size ≤ i) u5 u6 := ht.mono (fun i hi _ => by subst hi; exact G7.out)
          refine hK _ _ hX ?_
          clear hK K
          simp only [Act.put]
          replace HX := Lib.hid (HX.out.trans hX)
          replace K7 := Lib.hid hk
          replace K8 := Lib.hid (K8.out.turn ht (fun e => N8_7.out e))
          clear hk ht hX
          refine stepS_call (o := ⟨_, _, _, _, _, _⟩) rfl (by rfl) (fun K hK => ?_)
          refine wp_store_bc (.tmp 8) (.tmp 23) rfl g8 g _ (by rfl) (by rfl) K8.out ?_
          intro u7 hk ht _
          have hX : Turn (fun i => v2.heap.size ≤ i) u6 u7 := ht.mono (fun i hi _ => by subst hi; exact G8.out)
          refine hK _ _ hX ?_
          clear hK K
          simp only [Act.put]
          replace HX := Lib.hid (HX.out.trans hX)
          replace K7 := Lib.hid (K7.out.turn ht (fun e => N8_7.out e.symm))
          replace K8 := Lib.hid hk
          clear hk ht hX
          refine wpGs_done ?_
          go_wp2
          go_meet
          exact ⟨g7, g8, rfl, rfl, ⟨K7.out, K8.out⟩, Below.trans HD.out (HX.out.below (B := v2.heap.size) (Nat.le_of_eq HN.out.symm) (fun i hi => hi))⟩
      · skip
        refine stepS_call (o := ⟨_, _, _, _, _, _⟩) rfl (by rfl) (fun K hK => ?_)
        refine wp_alloc_arr TB rfl arrz_TB ?_
        intro g8 u3 hg hk hb
        refine hK _ _ (Turn.ofBelow hb) ?_
        clear hK K
        simp only [Act.put, List.setIfInBounds_toArray, List.set_cons_zero, List.set_cons_succ]
        have G8 : Hid (v2.heap.size ≤ g8) := Nat.le_trans (Nat.le_of_eq HN.out.symm) (Nat.le_trans HX.out.size hg)
        have N8_7 : Hid (g8 ≠ g7) := (Nat.ne_of_lt (Nat.lt_of_lt_of_le K7.out.lt hg)).symm
        replace HX := Lib.hid (HX.out.trans (Turn.ofBelow hb))
        replace K7 := Lib.hid (K7.out.ext hb)
        have K8 := Lib.hid hk
        clear hk hg hb
        refine stepS_call (o := ⟨_, _, _, _, _, _⟩) rfl (by rfl) (fun K hK => ?_)
        go_simp
        refine (COf.out u3).mono ?_
        rintro e u4 ⟨rfl, hb⟩
        refine hK _ _ (Turn.ofBelow hb) ?_
        clear hK K
        replace HX := Lib.hid (HX.out.trans (Turn.ofBelow hb))
        replace K7 := Lib.hid (K7.out.ext hb)
        replace K8 := Lib.hid (K8.out.ext hb)
        clear hb
        refine stepS_call (o := ⟨_, _, _, _, _, _⟩) rfl (by rfl) (fun K hK => ?_)
        go_simp
        refine (COg.out u4).mono ?_
        rintro e u5 ⟨rfl, hb⟩
        refine hK _ _ (Turn.ofBelow hb) ?_
        clear hK K
        replace HX := Lib.hid (HX.out.trans (Turn.ofBelow hb))
        replace K7 := Lib.hid (K7.out.ext hb)
        replace K8 := Lib.hid (K8.out.ext hb)
        clear hb
        refine stepS_call (o := ⟨_, _, _, _, _, _⟩) rfl (by rfl) (fun K hK => ?_)
        refine wp_store_bc (.tmp 7) (.tmp 21) rfl g7 f _ (by rfl) (by rfl) K7.out ?_
        intro u6 hk ht _
        have hX : Turn (fun i => v2.heap.size ≤ i) u5 u6 := ht.mono (fun i hi _ => by subst hi; exact G7.out)
        refine hK _ _ hX ?_
        clear hK K
        simp only [Act.put]
        replace HX := Lib.hid (HX.out.trans hX)
        replace K7 := Lib.hid hk
        replace K8 := Lib.hid (K8.out.turn ht (fun e => N8_7.out e))
        clear hk ht hX
        refine stepS_call (o := ⟨_, _, _, _, _, _⟩) rfl (by rfl) (fun K hK => ?_)
        refine wp_store_bc (.tmp 8) (.tmp 23) rfl g8 g _ (by rfl) (by rfl) K8.out ?_
        intro u7 hk ht _
        have hX : Turn (fun i => v2.heap.size ≤ i) u6 u7 := ht.mono (fun i hi _ => by subst hi; exact G8.out)
        refine hK _ _ hX ?_
        clear hK K
        simp only [Act.put]
        replace HX := Lib.hid (HX.out.trans hX)
        replace K7 := Lib.hid (K7.out.turn ht (fun e => N8_7.out e.symm))
        replace K8 := Lib.hid hk
        clear hk ht hX
        refine wpGs_done ?_
        go_wp2
        go_meet
        exact ⟨g7, g8, rfl, rfl, ⟨K7.out, K8.out⟩, Below.trans HD.out (HX.out.below (B := v2.heap.size) (Nat.le_of_eq HN.out.symm) (fun i hi => hi))⟩
    · skip
      refine stepS_call (o := ⟨_, _, _, _, _, _⟩) rfl (by rfl) (fun K hK => ?_)
      refine wp_alloc_arr TB rfl arrz_TB ?_
      intro g8 u2 hg hk hb
      refine hK _ _ (Turn.ofBelow hb) ?_
      clear hK K
      simp only [Act.put, List.setIfInBounds_toArray, List.set_cons_zero, List.set_cons_succ]
      have G8 : Hid (v2.heap.size ≤ g8) := Nat.le_trans (Nat.le_of_eq HN.out.symm) (Nat.le_trans HX.out.size hg)
      replace HX := Lib.hid (HX.out.trans (Turn.ofBelow hb))
      have K8 := Lib.hid hk
      clear hk hg hb
      refine ⟨?_, ?_⟩
      · skip
        refine stepS_call (o := ⟨_, _, _, _, _, _⟩) rfl (by rfl) (fun K hK => ?_)
        go_simp
        refine (COf.out u2).mono ?_
        rintro e u3 ⟨rfl, hb⟩
        refine hK _ _ (Turn.ofBelow hb) ?_
        clear hK K
        replace HX := Lib.hid (HX.out.trans (Turn.ofBelow hb))
        replace K8 := Lib.hid (K8.out.ext hb)
        clear hb
        refine ⟨?_, ?_⟩
        · skip
          refine stepS_call (o := ⟨_, _, _, _, _, _⟩) rfl (by rfl) (fun K hK => ?_)
          go_simp
          refine (COg.out u3).mono ?_
          rintro e u4 ⟨rfl, hb⟩
          refine hK _ _ (Turn.ofBelow hb) ?_
          clear hK K
          replace HX := Lib.hid (HX.out.trans (Turn.ofBelow hb))
          replace K8 := Lib.hid (K8.out.ext hb)
          clear hb
          refine stepS_call (o := ⟨_, _, _, _, _, _⟩) rfl (by rfl) (fun K hK => ?_)
          refine wp_alloc_arr TB rfl arrz_TB ?_
          intro g7 u5 hg hk hb
          refine hK _ _ (Turn.ofBelow hb) ?_
          clear hK K
          simp only [Act.put, List.setIfInBounds_toArray, List.set_cons_zero, List.set_cons_succ]
          have G7 : Hid (v2.heap.size ≤ g7) := Nat.le_trans (Nat.le_of_eq HN.out.symm) (Nat.le_trans HX.out.size hg)
          have N7_8 : Hid (g7 ≠ g8) := (Nat.ne_of_lt (Nat.lt_of_lt_of_le K8.out.lt hg)).symm
          replace HX := Lib.hid (HX.out.trans (Turn.ofBelow hb))
          replace K8 := Lib.hid (K8.out.ext hb)
          have K7 := Lib.hid hk
          clear hk hg hb
          refine stepS_call (o := ⟨_, _, _, _, _, _⟩) rfl (by rfl) (fun K hK => ?_)
          refine wp_store_bc (.tmp 7) (.tmp 21) rfl g7 f _ (by rfl) (by rfl) K7.out ?_
          intro u6 hk ht _
          have hX : Turn (fun i => v2.heap.size ≤ i) u5 u6 := ht.mono (fun i hi _ => by subst hi; exact G7.out)
          refine hK _ _ hX ?_
          clear hK K
          simp only [Act.put]
          replace HX := Lib.hid (HX.out.trans hX)
          replace K8 := Lib.hid (K8.out.turn ht (fun e => N7_8.out e.symm))
          replace K7 := Lib.hid hk
          clear hk ht hX
          refine stepS_call (o := ⟨_, _, _, _, _, _⟩) rfl (by rfl) (fun K hK => ?_)
          refine wp_store_bc (.tmp 8) (.tmp 23) rfl g8 g _ (by rfl) (by rfl) K8.out ?_
          intro u7 hk ht _
          have hX : Turn (fun i => v2.heap.size ≤ i) u6 u7 := ht.mono (fun i hi _ => by subst hi; exact G8.out)
          refine hK _ _ hX ?_
          clear hK K
          simp only [Act.put]
          replace HX := Lib.hid (HX.out.trans hX)
          replace K8 := Lib.hid hk
          replace K7 := Lib.hid (K7.out.turn ht (fun e => N7_8.out e))
          clear hk ht hX
          refine wpGs_done ?_
          go_wp2
          go_meet
          exact ⟨g7, g8, rfl, rfl, ⟨K7.out, K8.out⟩, Below.trans HD.out (HX.out.below (B := v2.heap.size) (Nat.le_of_eq HN.out.symm) (fun i hi => hi))⟩
        · skip
          refine stepS_call (o := ⟨_, _, _, _, _, _⟩) rfl (by rfl) (fun K hK => ?_)
          refine wp_alloc_arr TB rfl arrz_TB ?_
          intro g7 u4 hg hk hb
          refine hK _ _ (Turn.ofBelow hb) ?_
          clear hK K
          simp only [Act.put, List.setIfInBounds_toArray, List.set_cons_zero, List.set_cons_succ]
          have G7 : Hid (v2.heap.size ≤ g7) := Nat.le_trans (Nat.le_of_eq HN.out.symm) (Nat.le_trans HX.out.size hg)
          have N7_8 : Hid (g7 ≠ g8) := (Nat.ne_of_lt (Nat.lt_of_lt_of_le K8.out.lt hg)).symm
          replace HX := Lib.hid (HX.out.trans (Turn.ofBelow hb))
          replace K8 := Lib.hid (K8.out.ext hb)
          have K7 := Lib.hid hk
          clear hk hg hb
          refine stepS_call (o := ⟨_, _, _, _, _, _⟩) rfl (by rfl) (fun K hK => ?_)
          go_simp
          refine (COg.out u4).mono ?_
          rintro e u5 ⟨rfl, hb⟩
          refine hK _ _ (Turn.ofBelow hb) ?_
          clear hK K
          replace HX := Lib.hid (HX.out.trans (Turn.ofBelow hb))
          replace K8 := Lib.hid (K8.out.ext hb)
          replace K7 := Lib.hid (K7.out.ext hb)
          clear hb
          refine stepS_call (o := ⟨_, _, _, _, _, _⟩) rfl (by rfl) (fun K hK => ?_)
          refine wp_store_bc (.tmp 7) (.tmp 21) rfl g7 f _ (by rfl) (by rfl) K7.out ?_
          intro u6 hk ht _
          have hX : Turn (fun i => v2.heap.size ≤ i) u5 u6 := ht.mono (fun i hi _ => by subst hi; exact G7.out)
          refine hK _ _ hX ?_
          clear hK K
          simp only [Act.put]
          replace HX := Lib.hid (HX.out.trans hX)
          replace K8 := Lib.hid (K8.out.turn ht (fun e => N7_8.out e.symm))
          replace K7 := Lib.hid hk
          clear hk ht hX
          refine stepS_call (o := ⟨_, _, _, _, _, _⟩) rfl (by rfl) (fun K hK => ?_)
          refine wp_store_bc (.tmp 8) (.tmp 23) rfl g8 g _ (by rfl) (by rfl) K8.out ?_
          intro u7 hk ht _
          have hX : Turn (fun i => v2.heap.size ≤ i) u6 u7 := ht.mono (fun i hi _ => by subst hi; exact G8.out)
          refine hK _ _ hX ?_
          clear hK K
          simp only [Act.put]
          replace HX := Lib.hid (HX.out.trans hX)
          replace K8 := Lib.hid hk
          replace K7 := Lib.hid (K7.out.turn ht (fun e => N7_8.out e))
          clear hk ht hX
          refine wpGs_done ?_
          go_wp2
          go_meet
          exact ⟨g7, g8, rfl, rfl, ⟨K7.out, K8.out⟩, Below.trans HD.out (HX.out.below (B := v2.heap.size) (Nat.le_of_eq HN.out.symm) (fun i hi => hi))⟩
      · skip
        refine stepS_call (o := ⟨_, _, _, _, _, _⟩) rfl (by rfl) (fun K hK => ?_)
        refine wp_alloc_arr TB rfl arrz_TB ?_
        intro g7 u3 hg hk hb
        refine hK _ _ (Turn.ofBelow hb) ?_
        clear hK K
        simp only [Act.put, List.setIfInBounds_toArray, List.set_cons_zero, List.set_cons_succ]
        have G7 : Hid (v2.heap.size ≤ g7) := Nat.le_trans (Nat.le_of_eq HN.out.symm) (Nat.le_trans HX.out.size hg)
        have N7_8 : Hid (g7 ≠ g8) := (Nat.ne_of_lt (Nat.lt_of_lt_of_le K8.out.lt hg)).symm
        replace HX := Lib.hid (HX.out.trans (Turn.ofBelow hb))
        replace K8 := Lib.hid (K8.out.ext hb)
        have K7 := Lib.hid hk
        clear hk hg hb
        refine stepS_call (o := ⟨_, _, _, _, _, _⟩) rfl (by rfl) (fun K hK => ?_)
        go_simp
        refine (COf.out u3).mono ?_
        rintro e u4 ⟨rfl, hb⟩
        refine hK _ _ (Turn.ofBelow hb) ?_
        clear hK K
        replace HX := Lib.hid (HX.out.trans (Turn.ofBelow hb))
        replace K8 := Lib.hid (K8.out.ext hb)
        replace K7 := Lib.hid (K7.out.ext hb)
        clear hb
        refine stepS_call (o := ⟨_, _, _, _, _, _⟩) rfl (by rfl) (fun K hK => ?_)
        go_simp
        refine (COg.out u4).mono ?_
        rintro e u5 ⟨rfl, hb⟩
        refine hK _ _ (Turn.ofBelow hb) ?_
        clear hK K
        replace HX := Lib.hid (HX.out.trans (Turn.ofBelow hb))
        replace K8 := Lib.hid (K8.out.ext hb)
        replace K7 := Lib.hid (K7.out.ext hb)
        clear hb
        refine stepS_call (o := ⟨_, _, _, _, _, _⟩) rfl (by rfl) (fun K hK => ?_)
        refine wp_store_bc (.tmp 7) (.tmp 21) rfl g7 f _ (by rfl) (by rfl) K7.out ?_
        intro u6 hk ht _
        have hX : Turn (fun i => v2.heap.size ≤ i) u5 u6 := ht.mono (fun i hi _ => by subst hi; exact G7.out)
        refine hK _ _ hX ?_
        clear hK K
        simp only [Act.put]
        replace HX := Lib.hid (HX.out.trans hX)
        replace K8 := Lib.hid (K8.out.turn ht (fun e => N7_8.out e.symm))
        replace K7 := Lib.hid hk
        clear hk ht hX
        refine stepS_call (o := ⟨_, _, _, _, _, _⟩) rfl (by rfl) (fun K hK => ?_)
        refine wp_store_bc (.tmp 8) (.tmp 23) rfl g8 g _ (by rfl) (by rfl) K8.out ?_
        intro u7 hk ht _
        have hX : Turn (fun i => v2.heap.size ≤ i) u6 u7 := ht.mono (fun i hi _ => by subst hi; exact G8.out)
        refine hK _ _ hX ?_
        clear hK K
        simp only [Act.put]
        replace HX := Lib.hid (HX.out.trans hX)
        replace K8 := Lib.hid hk
        replace K7 := Lib.hid (K7.out.turn ht (fun e => N7_8.out e))
        clear hk ht hX
        refine wpGs_done ?_
        go_wp2
        go_meet
        exact ⟨g7, g8, rfl, rfl, ⟨K7.out, K8.out⟩, Below.trans HD.out (HX.out.below (B := v2.heap.size) (Nat.le_of_eq HN.out.symm) (fun i hi => hi))⟩
  case rest =>
    obtain ⟨g7, g8, rfl, rfl, hk, hb⟩ := hcut
    obtain ⟨k7, k8⟩ := hk.out
    replace hb := hb.out
    generalize wc = u2 at *
    replace HB := Lib.hid (HB.out.trans (hb.mono HB.out.size))
    replace K3 := Lib.hid (K3.out.ext hb)
    replace K4 := Lib.hid (K4.out.ext hb)
    have K7 := Lib.hid k7
    have K8 := Lib.hid k8
    clear hk hb k7 k8
    obtain ⟨D, hD⟩ : ∃ D : Bool, (decide (0 ≤ x) && decide (x < 1024)) = D := ⟨_, rfl⟩
    have HD9 := Lib.hid hD
    go_upto_region 2 with fail
    go_cut [9] (fun s9 wx => s9 = .bool D ∧ u2 = wx)
    case first => as_aux_lemma =>
      by_cases h0 : 0 ≤ x
      · by_cases h1 : x < 1024
        · have d0 : decide (0 ≤ x) = true := decide_eq_true h0
          have d1 : decide (x < 1024) = true := decide_eq_true h1
          rw [d0, d1] at hD
          have eD : Hid (true = D) := hD
          clear hD d0 d1
          go_wp2
          go_meet
          exact ⟨by rw [← eD.out], by first | trivial | rfl⟩
        · have d0 : decide (0 ≤ x) = true := decide_eq_true h0
          have d1 : decide (x < 1024) = false := decide_eq_false h1
          rw [d0, d1] at hD
          have eD : Hid (false = D) := hD
          clear hD d0 h1
          go_wp2
          go_meet
          exact ⟨by rw [← eD.out], by first | trivial | rfl⟩
      · have d0 : decide (0 ≤ x) = false := decide_eq_false h0
        rw [d0] at hD
        have eD : Hid (false = D) := hD
        clear hD h0
        go_wp2
        go_meet
        exact ⟨by rw [← eD.out], by first | trivial | rfl⟩
    case rest =>
      obtain ⟨rfl, rfl⟩ := hcut
      clear hD
      have L3 : Hid (g3 < u2.heap.size ∧ g4 < u2.heap.size ∧ g7 < u2.heap.size ∧ g8 < u2.heap.size) := ⟨K3.out.lt, K4.out.lt, K7.out.lt, K8.out.lt⟩
      have LW : Hid (w.heap.size ≤ u2.heap.size) := HB.out.size
      go_upto_region 3 with fail
      go_cut [10, 11] (fun s10 s11 wx => ∃ g10 g11 : Nat, s10 = .pointer (some ⟨g10, 0, none⟩) ∧ s11 = .pointer (some ⟨g11, 0, none⟩) ∧ Hid (Blk wx g10 TB (bc f) ∧ Blk wx g11 TB (bc f)) ∧ Hid (u2.heap.size ≤ g10 ∧ u2.heap.size ≤ g11 ∧ g10 ≠ g11) ∧ Hid (Below u2.heap.size u2 wx))
      case first => as_aux_lemma =>
        refine wp_region_gs (F := fun i => u2.heap.size ≤ i) (.rd 0 (.rd 1 (.two 2 (.call 3 (.call 4 (.call 5 .done))) 3 (.call 2 (.call 4 (.call 5 .done)))))) (by kernel_rfl) (by kernel_rfl) (by kernel_rfl) (by kernel_rfl) (fun _ _ _ _ _ h => h) ?_
        have hb : Ext u2 u2.drew := Ext.drew _
        have HN : Hid (u2.drew.heap.size = u2.heap.size) := rfl
        have HD := Lib.hid hb
        replace HB := Lib.hid (HB.out.trans (hb.mono HB.out.size))
        replace K3 := Lib.hid (K3.out.ext hb)
        replace K4 := Lib.hid (K4.out.ext hb)
        replace K7 := Lib.hid (K7.out.ext hb)
        replace K8 := Lib.hid (K8.out.ext hb)
        clear hb
        have HX : Hid (Turn (fun i => u2.heap.size ≤ i) u2.drew u2.drew) := Turn.refl _ _
        generalize u2.drew = u3 at *
        refine wpGs_read (o := ⟨_, _, _, _, _, _⟩) (v := .agg (bc f)) rfl (by rfl) (fun w' hw' => rd_load_bc (.tmp 7) rfl g7 f (by rfl) (K7.out.turn hw' (fun (e : u2.heap.size ≤ g7) => Nat.not_le.2 (Nat.lt_of_lt_of_eq K7.out.lt HN.out) e))) ?_
        simp only [Act.put, List.setIfInBounds_toArray, List.set_cons_zero, List.set_cons_succ]
        refine wpGs_read (o := ⟨_, _, _, _, _, _⟩) (v := .agg (bc f)) rfl (by rfl) (fun w' hw' => rd_load_bc (.tmp 7) rfl g7 f (by rfl) (K7.out.turn hw' (fun (e : u2.heap.size ≤ g7) => Nat.not_le.2 (Nat.lt_of_lt_of_eq K7.out.lt HN.out) e))) ?_
        simp only [Act.put, List.setIfInBounds_toArray, List.set_cons_zero, List.set_cons_succ]
        refine ⟨?_, ?_⟩
        · skip
          refine stepS_call (o := ⟨_, _, _, _, _, _⟩) rfl (by rfl) (fun K hK => ?_)
          refine wp_alloc_arr TB rfl arrz_TB ?_
          intro g10 u4 hg hk hb
          refine hK _ _ (Turn.ofBelow hb) ?_
          clear hK K
          simp only [Act.put, List.setIfInBounds_toArray, List.set_cons_zero, List.set_cons_succ]
          have G10 : Hid (u2.heap.size ≤ g10) := Nat.le_trans (Nat.le_of_eq HN.out.symm) (Nat.le_trans HX.out.size hg)
          replace HX := Lib.hid (HX.out.trans (Turn.ofBelow hb))
          have K10 := Lib.hid hk
          clear hk hg hb
          refine stepS_call (o := ⟨_, _, _, _, _, _⟩) rfl (by rfl) (fun K hK => ?_)
          refine wp_alloc_arr TB rfl arrz_TB ?_
          intro g11 u5 hg hk hb
          refine hK _ _ (Turn.ofBelow hb) ?_
          clear hK K
          simp only [Act.put, List.setIfInBounds_toArray, List.set_cons_zero, List.set_cons_succ]
          have G11 : Hid (u2.heap.size ≤ g11) := Nat.le_trans (Nat.le_of_eq HN.out.symm) (Nat.le_trans HX.out.size hg)
          have N11_10 : Hid (g11 ≠ g10) := (Nat.ne_of_lt (Nat.lt_of_lt_of_le K10.out.lt hg)).symm
          replace HX := Lib.hid (HX.out.trans (Turn.ofBelow hb))
          replace K10 := Lib.hid (K10.out.ext hb)
          have K11 := Lib.hid hk
          clear hk hg hb
          refine stepS_call (o := ⟨_, _, _, _, _, _⟩) rfl (by rfl) (fun K hK => ?_)
          refine wp_store_bc (.tmp 10) (.tmp 30) rfl g10 f _ (by rfl) (by rfl) K10.out ?_
          intro u6 hk ht _
          have hX : Turn (fun i => u2.heap.size ≤ i) u5 u6 := ht.mono (fun i hi _ => by subst hi; exact G10.out)
          refine hK _ _ hX ?_
          clear hK K
          simp only [Act.put]
          replace HX := Lib.hid (HX.out.trans hX)
          replace K10 := Lib.hid hk
          replace K11 := Lib.hid (K11.out.turn ht (fun e => N11_10.out e))
          clear hk ht hX
          refine stepS_call (o := ⟨_, _, _, _, _, _⟩) rfl (by rfl) (fun K hK => ?_)
          refine wp_store_bc (.tmp 11) (.tmp 31) rfl g11 f _ (by rfl) (by rfl) K11.out ?_
          intro u7 hk ht _
          have hX : Turn (fun i => u2.heap.size ≤ i) u6 u7 := ht.mono (fun i hi _ => by subst hi; exact G11.out)
          refine hK _ _ hX ?_
          clear hK K
          simp only [Act.put]
          replace HX := Lib.hid (HX.out.trans hX)
          replace K10 := Lib.hid (K10.out.turn ht (fun e => N11_10.out e.symm))
          replace K11 := Lib.hid hk
          clear hk ht hX
          refine wpGs_done ?_
          go_wp2
          go_meet
          exact ⟨g10, g11, rfl, rfl, ⟨K10.out, K11.out⟩, ⟨G10.out, G11.out, N11_10.out.symm⟩, Below.trans HD.out (HX.out.below (B := u2.heap.size) (Nat.le_of_eq HN.out.symm) (fun i hi => hi))⟩
        · skip
          refine stepS_call (o := ⟨_, _, _, _, _, _⟩) rfl (by rfl) (fun K hK => ?_)
          refine wp_alloc_arr TB rfl arrz_TB ?_
          intro g11 u4 hg hk hb
          refine hK _ _ (Turn.ofBelow hb) ?_
          clear hK K
          simp only [Act.put, List.setIfInBounds_toArray, List.set_cons_zero, List.set_cons_succ]
          have G11 : Hid (u2.heap.size ≤ g11) := Nat.le_trans (Nat.le_of_eq HN.out.symm) (Nat.le_trans HX.out.size hg)
          replace HX := Lib.hid (HX.out.trans (Turn.ofBelow hb))
          have K11 := Lib.hid hk
          clear hk hg hb
          refine stepS_call (o := ⟨_, _, _, _, _, _⟩) rfl (by rfl) (fun K hK => ?_)
          refine wp_alloc_arr TB rfl arrz_TB ?_
          intro g10 u5 hg hk hb
          refine hK _ _ (Turn.ofBelow hb) ?_
          clear hK K
          simp only [Act.put, List.setIfInBounds_toArray, List.set_cons_zero, List.set_cons_succ]
          have G10 : Hid (u2.heap.size ≤ g10) := Nat.le_trans (Nat.le_of_eq HN.out.symm) (Nat.le_trans HX.out.size hg)
          have N10_11 : Hid (g10 ≠ g11) := (Nat.ne_of_lt (Nat.lt_of_lt_of_le K11.out.lt hg)).symm
          replace HX := Lib.hid (HX.out.trans (Turn.ofBelow hb))
          replace K11 := Lib.hid (K11.out.ext hb)
          have K10 := Lib.hid hk
          clear hk hg hb
          refine stepS_call (o := ⟨_, _, _, _, _, _⟩) rfl (by rfl) (fun K hK => ?_)
          refine wp_store_bc (.tmp 10) (.tmp 30) rfl g10 f _ (by rfl) (by rfl) K10.out ?_
          intro u6 hk ht _
          have hX : Turn (fun i => u2.heap.size ≤ i) u5 u6 := ht.mono (fun i hi _ => by subst hi; exact G10.out)
          refine hK _ _ hX ?_
          clear hK K
          simp only [Act.put]
          replace HX := Lib.hid (HX.out.trans hX)
          replace K11 := Lib.hid (K11.out.turn ht (fun e => N10_11.out e.symm))
          replace K10 := Lib.hid hk
          clear hk ht hX
          refine stepS_call (o := ⟨_, _, _, _, _, _⟩) rfl (by rfl) (fun K hK => ?_)
          refine wp_store_bc (.tmp 11) (.tmp 31) rfl g11 f _ (by rfl) (by rfl) K11.out ?_
          intro u7 hk ht _
          have hX : Turn (fun i => u2.heap.size ≤ i) u6 u7 := ht.mono (fun i hi _ => by subst hi; exact G11.out)
          refine hK _ _ hX ?_
          clear hK K
          simp only [Act.put]
          replace HX := Lib.hid (HX.out.trans hX)
          replace K11 := Lib.hid hk
          replace K10 := Lib.hid (K10.out.turn ht (fun e => N10_11.out e))
          clear hk ht hX
          refine wpGs_done ?_
          go_wp2
          go_meet
          exact ⟨g10, g11, rfl, rfl, ⟨K10.out, K11.out⟩, ⟨G10.out, G11.out, N10_11.out⟩, Below.trans HD.out (HX.out.below (B := u2.heap.size) (Nat.le_of_eq HN.out.symm) (fun i hi => hi))⟩
      case rest =>
        obtain ⟨g10, g11, rfl, rfl, hk, hgeo, hb⟩ := hcut
        obtain ⟨k10, k11⟩ := hk.out
        replace hb := hb.out
        generalize wc = u4 at *
        replace HB := Lib.hid (HB.out.trans (hb.mono HB.out.size))
        replace K3 := Lib.hid (K3.out.ext hb)
        replace K4 := Lib.hid (K4.out.ext hb)
        replace K7 := Lib.hid (K7.out.ext hb)
        replace K8 := Lib.hid (K8.out.ext hb)
        have K10 := Lib.hid k10
        have K11 := Lib.hid k11
        clear hk hb k10 k11
        have Hgeo : Hid (w.heap.size ≤ g10 ∧ w.heap.size ≤ g11 ∧ g10 ≠ g11 ∧ (g3 ≠ g10 ∧ g3 ≠ g11) ∧ (g4 ≠ g10 ∧ g4 ≠ g11) ∧ (g7 ≠ g10 ∧ g7 ≠ g11) ∧ (g8 ≠ g10 ∧ g8 ≠ g11)) := by
          obtain ⟨q1, q2, q3⟩ := hgeo.out
          obtain ⟨q4, q5, q6, q7⟩ := L3.out
          have q8 := LW.out
          exact ⟨by omega, by omega, q3, ⟨by omega, by omega⟩, ⟨by omega, by omega⟩, ⟨by omega, by omega⟩, by omega, by omega⟩
        clear hgeo L3 LW
        go_upto_if 32 with fail
        go_cut [] (fun wx => Hid (Blk wx g10 TB (bc WI) ∧ Blk wx g11 TB (bc WO)) ∧ Hid (Turn (fun i => i = g10 ∨ i = g11) u4 wx))
        case first => as_aux_lemma =>
          cases D with
          | true =>
            obtain ⟨n, rfl⟩ : ∃ n : Nat, x = (n : Int) := ⟨x.toNat, by
              have := HD9.out; rw [Bool.and_eq_true, decide_eq_true_iff, decide_eq_true_iff] at this; omega⟩
            have hn : n < 1024 := by
              have := HD9.out; rw [Bool.and_eq_true, decide_eq_true_iff, decide_eq_true_iff] at this; omega
            have n0 : (0 : Int) ≤ (n : Int) := by omega
            have n1 : (n : Int) < 1024 := by omega
            have nw : IntKind.i64.wrap (n : Int) = (n : Int) := by rw [IntKind.wrap_i64]; omega
            obtain ⟨e1, e2⟩ := Hin.out n rfl hn
            have E1 := Lib.hid e1
            have E2 := Lib.hid e2
            clear e1 e2
            go_wp2_with (first
              | (refine wpList_store_yes rfl (.tmp 35) (.const (.bool true)) rfl g10 n (bc f) true (by rfl) (by rfl) K10.out (bc_size f) hn ?_; intro v1 hk1 ht1)
              | (refine wpList_store_yes rfl (.tmp 36) (.const (.bool false)) rfl g11 n (bc f) false (by rfl) (by rfl) (K11.out.turn ht1 (fun e => Hgeo.out.2.2.1 e.symm)) (bc_size f) hn ?_; intro v2 hk2 ht2))
            go_meet
            refine ⟨⟨?_, ?_⟩, (ht1.mono (fun i hi _ => .inl hi)).trans (ht2.mono (fun i hi _ => .inr hi))⟩
            · rw [← E1.out]; exact hk1.turn ht2 (fun e => Hgeo.out.2.2.1 e)
            · rw [← E2.out]; exact hk2
          | false =>
            have hf : x < 0 ∨ 1024 ≤ x := by
              have := HD9.out; rw [Bool.and_eq_false_iff, decide_eq_false_iff_not, decide_eq_false_iff_not] at this; omega
            obtain ⟨e1, e2⟩ := Hfar.out hf
            have E1 := Lib.hid e1
            have E2 := Lib.hid e2
            clear e1 e2 hf
            go_wp2
            go_meet
            exact ⟨⟨by rw [E1.out]; exact K10.out, by rw [E2.out]; exact K11.out⟩, Turn.refl _ _⟩
        case rest =>
          obtain ⟨hk, ht⟩ := hcut
          replace K10 := Lib.hid hk.out.1
          replace K11 := Lib.hid hk.out.2
          replace K3 := Lib.hid (K3.out.turn ht.out (fun e => e.elim Hgeo.out.2.2.2.1.1 Hgeo.out.2.2.2.1.2))
          replace K4 := Lib.hid (K4.out.turn ht.out (fun e => e.elim Hgeo.out.2.2.2.2.1.1 Hgeo.out.2.2.2.2.1.2))
          replace K7 := Lib.hid (K7.out.turn ht.out (fun e => e.elim Hgeo.out.2.2.2.2.2.1.1 Hgeo.out.2.2.2.2.2.1.2))
          replace K8 := Lib.hid (K8.out.turn ht.out (fun e => e.elim Hgeo.out.2.2.2.2.2.2.1 Hgeo.out.2.2.2.2.2.2.2))
          replace HB := Lib.hid (HB.out.trans (ht.out.below HB.out.size (fun i hi => hi.elim (fun e => by rw [e]; exact Hgeo.out.1) (fun e => by rw [e]; exact Hgeo.out.2.1))))
          clear hk ht Hgeo
          generalize wc = u5 at *
          go_wp2_with (first
            | (show wpList _ _ _ (⟨some 12, _, _, _, _, _⟩ :: _) _ _; refine wpList_alloc_arr rfl TB rfl arrz_TB ?_; intro g12 v12 hg12 hk12 hb12)
            | (show wpList _ _ _ (⟨some 13, _, _, _, _, _⟩ :: _) _ _; refine wpList_alloc_arr rfl TB rfl arrz_TB ?_; intro g13 v13 hg13 hk13 hb13)
            | (show wpList _ _ _ (⟨some 14, _, _, _, _, _⟩ :: _) _ _; refine wpList_alloc_arr rfl TB rfl arrz_TB ?_; intro g14 v14 hg14 hk14 hb14)
            | (show wpList _ _ _ (⟨some 15, _, _, _, _, _⟩ :: _) _ _; refine wpList_alloc_arr rfl TB rfl arrz_TB ?_; intro g15 v15 hg15 hk15 hb15))
          have Hs : Hid (u5.heap.size ≤ g12 ∧ u5.heap.size ≤ g13 ∧ u5.heap.size ≤ g14 ∧ u5.heap.size ≤ g15 ∧ g13 ≠ g12 ∧ g14 ≠ g12 ∧ g15 ≠ g12 ∧ g14 ≠ g13 ∧ g15 ≠ g13 ∧ g15 ≠ g14) := by
            have s1 := hb12.size
            have s2 := hb13.size
            have s3 := hb14.size
            have l1 := hk12.lt
            have l2 := hk13.lt
            have l3 := hk14.lt
            exact ⟨by omega, by omega, by omega, by omega, by omega, by omega, by omega, by omega, by omega, by omega⟩
          have Hb4 : Hid (Ext u5 v15) := ((Ext.trans (Ext.trans hb12 hb13) hb14).trans hb15)
          have Hk4 : Hid ((Blk v15 g12 TB (bc (ofR FA 0)) ∧ Blk v15 g13 TB (bc (ofR FO 0))) ∧ Blk v15 g14 TB (bc (ofR FL 0)) ∧ Blk v15 g15 TB (bc (ofR FB 0))) := by
            show _ ∧ _
            rw [HozA.out, HozO.out, HozL.out, HozB.out]
            exact ⟨⟨((hk12.ext hb13).ext hb14).ext hb15, (hk13.ext hb14).ext hb15⟩, hk14.ext hb15, hk15⟩
          clear hg12 hg13 hg14 hg15 hk12 hk13 hk14 hk15 hb12 hb13 hb14 hb15
          go_loopw [16] (fun i wr => ∃ k : Nat, i = .int .i64 k ∧ k ≤ 1024 ∧ Hid ((Blk wr g12 TB (bc (ofR FA k)) ∧ Blk wr g13 TB (bc (ofR FO k))) ∧ Blk wr g14 TB (bc (ofR FL k)) ∧ Blk wr g15 TB (bc (ofR FB k))) ∧ Hid (Ext u5 wr)) (fun i _ => 1024 - (intOf i).toNat)
          case atStart => exact ⟨0, rfl, by omega, Hk4, Hb4⟩
          case round =>
            obtain ⟨k, rfl, hk, HKr, HEr⟩ := hrel
            clear Hb4 Hk4
            by_cases hlt : k < 1024
            · have hlt2 : (k : Int) < 1024 := by omega
              have k0 : (0 : Int) ≤ (k : Int) := by omega
              have kw : IntKind.i64.wrap (k : Int) = (k : Int) := by rw [IntKind.wrap_i64]; omega
              have sA := HofA.out k hlt
              have sO := HofO.out k hlt
              have sL := HofL.out k hlt
              have sB := HofB.out k hlt
              rw [PFA.out k] at sA
              rw [PFO.out k] at sO
              rw [PFL.out k] at sL
              rw [PFB.out k] at sB
              have cX := fun w' (h : Blk w' g7 TB (bc f)) => h.yes k hlt
              have cY := fun w' (h : Blk w' g8 TB (bc g)) => h.yes k hlt
              generalize f k = X at *
              generalize g k = Y at *
              obtain ⟨Z, hZ⟩ : ∃ Z : Bool, decide ((k : Int) < x) = Z := ⟨_, rfl⟩
              rw [hZ] at sB
              have SA := Lib.hid sA
              have SO := Lib.hid sO
              have SL := Lib.hid sL
              have SB := Lib.hid sB
              have CX := Lib.hid cX
              have CY := Lib.hid cY
              clear sA sO sL sB cX cY
              go_wp2_with fail
              refine wp_region_gt (F := fun i => u5.heap.size ≤ i) [(0, true), (1, true), (2, true), (3, true), (4, true), (5, true), (6, true), (7, true), (8, true), (9, true), (10, true), (11, true), (12, true), (13, true), (14, true), (15, true), (16, true), (17, true), (18, true), (19, true), (20, true), (21, true), (22, true), (23, true), (24, true), (25, true), (26, true), (27, true), (28, true), (29, true), (30, true), (31, true), (32, true), (33, false), (34, true), (35, false), (36, true), (37, false), (38, true), (39, false)] (by kernel_rfl) (by kernel_rfl) (by kernel_rfl) (by kernel_rfl) (fun _ _ _ _ _ h => h) ?_
              have HK5 : Hid ((Blk wr.drew g12 TB (bc (ofR FA k)) ∧ Blk wr.drew g13 TB (bc (ofR FO k))) ∧ Blk wr.drew g14 TB (bc (ofR FL k)) ∧ Blk wr.drew g15 TB (bc (ofR FB k))) := HKr.out
              have HE5 : Hid (Ext u5 wr.drew) := Ext.trans HEr.out (Ext.drew _)
              clear HKr HEr
              generalize wr.drew = U at *
              have hx : ∀ w', Turn (fun i => u5.heap.size ≤ i) U w' → w'.cell? ⟨g7, k, none⟩ = some (.bool X) := fun w' ht => CX.out w' ((K7.out.ext HE5.out).turn ht (fun (e : u5.heap.size ≤ g7) => Nat.not_le.2 K7.out.lt e))
              have hy : ∀ w', Turn (fun i => u5.heap.size ≤ i) U w' → w'.cell? ⟨g8, k, none⟩ = some (.bool Y) := fun w' ht => CY.out w' ((K8.out.ext HE5.out).turn ht (fun (e : u5.heap.size ≤ g8) => Nat.not_le.2 K8.out.lt e))
              have hmo : ∀ q, u5.heap.size ≤ q → ∀ u v, Turn (fun i => i = q) u v → Turn (fun i => u5.heap.size ≤ i) u v := fun q hq u v t => t.mono (fun i hi _ => by subst hi; exact hq)
              have Hmo := Lib.hid hmo
              clear hmo
              cases X with
              | true => as_aux_lemma =>
                iterate 8 (refine wpGt_read (o := ⟨_, _, _, _, _, _⟩) (v := ?_) rfl (by rfl) ?_ ?_; rotate_left; (intro w' hw'; go_simp; with_reducible rfl); simp only [Act.put, List.setIfInBounds_toArray, List.set_cons_zero, List.set_cons_succ])
                iterate 3 (refine wpGt_read (o := ⟨_, _, _, _, _, _⟩) (v := ?_) rfl (by rfl) ?_ ?_; rotate_left; (intro w' hw'; go_simp; with_reducible rfl); simp only [Act.put, List.setIfInBounds_toArray, List.set_cons_zero, List.set_cons_succ])
                iterate 5 (refine wpGt_read (o := ⟨_, _, _, _, _, _⟩) (v := ?_) rfl (by rfl) ?_ ?_; rotate_left; (intro w' hw'; go_simp; with_reducible rfl); simp only [Act.put, List.setIfInBounds_toArray, List.set_cons_zero, List.set_cons_succ])
                iterate 3 (refine wpGt_skip (o := ⟨_, _, _, _, _, _⟩) rfl (by rfl) ?_; simp only [Act.put, List.setIfInBounds_toArray, List.set_cons_zero, List.set_cons_succ])
                iterate 5 (refine wpGt_read (o := ⟨_, _, _, _, _, _⟩) (v := ?_) rfl (by rfl) ?_ ?_; rotate_left; (intro w' hw'; go_simp; with_reducible rfl); simp only [Act.put, List.setIfInBounds_toArray, List.set_cons_zero, List.set_cons_succ])
                iterate 4 (refine wpGt_read (o := ⟨_, _, _, _, _, _⟩) (v := ?_) rfl (by rfl) ?_ ?_; rotate_left; (intro w' hw'; go_simp; with_reducible rfl); simp only [Act.put, List.setIfInBounds_toArray, List.set_cons_zero, List.set_cons_succ])
                iterate 5 (refine wpGt_read (o := ⟨_, _, _, _, _, _⟩) (v := ?_) rfl (by rfl) ?_ ?_; rotate_left; (intro w' hw'; go_simp; with_reducible rfl); simp only [Act.put, List.setIfInBounds_toArray, List.set_cons_zero, List.set_cons_succ])
                clear hx hy
                have k12 := HK5.out.1.1
                have k13 := HK5.out.1.2
                have k14 := HK5.out.2.1
                have k15 := HK5.out.2.2
                have hE := HE5.out
                clear HK5 HE5
                refine wpGt_call (o := ⟨_, _, _, _, _, _⟩) rfl (by rfl) (fun K hK => ?_)
                refine wp_store_yes (.tmp 73) (.tmp 52) rfl g12 k _ Y (by rfl) (by rfl) k12 (bc_size _) hlt ?_
                intro U1 hk9 ht9
                refine hK _ _ (Hmo.out _ Hs.out.1 _ _ ht9) ?_
                clear hK K
                simp only [Act.put]
                have e9 := SA.out
                rw [Bool.true_and] at e9
                rw [e9] at hk9
                clear e9
                replace k12 := hk9
                replace k13 := k13.turn ht9 (fun e => Hs.out.2.2.2.2.1 e)
                replace k14 := k14.turn ht9 (fun e => Hs.out.2.2.2.2.2.1 e)
                replace k15 := k15.turn ht9 (fun e => Hs.out.2.2.2.2.2.2.1 e)
                replace hE : Ext u5 U1 := Below.trans hE (ht9.below hE.size (fun i hi => by subst hi; exact Hs.out.1))
                clear hk9 ht9
                iterate 1 (refine wpGt_read (o := ⟨_, _, _, _, _, _⟩) (v := ?_) rfl (by rfl) ?_ ?_; rotate_left; (intro w' hw'; go_simp; with_reducible rfl); simp only [Act.put, List.setIfInBounds_toArray, List.set_cons_zero, List.set_cons_succ])
                refine wpGt_call (o := ⟨_, _, _, _, _, _⟩) rfl (by rfl) (fun K hK => ?_)
                refine wp_store_yes (.tmp 74) (.tmp 60) rfl g13 k _ true (by rfl) (by rfl) k13 (bc_size _) hlt ?_
                intro U2 hk9 ht9
                refine hK _ _ (Hmo.out _ Hs.out.2.1 _ _ ht9) ?_
                clear hK K
                simp only [Act.put]
                have e9 := SO.out
                rw [Bool.true_or] at e9
                rw [e9] at hk9
                clear e9
                replace k12 := k12.turn ht9 (fun e => Hs.out.2.2.2.2.1 e.symm)
                replace k13 := hk9
                replace k14 := k14.turn ht9 (fun e => Hs.out.2.2.2.2.2.2.2.1 e)
                replace k15 := k15.turn ht9 (fun e => Hs.out.2.2.2.2.2.2.2.2.1 e)
                replace hE : Ext u5 U2 := Below.trans hE (ht9.below hE.size (fun i hi => by subst hi; exact Hs.out.2.1))
                clear hk9 ht9
                iterate 1 (refine wpGt_read (o := ⟨_, _, _, _, _, _⟩) (v := ?_) rfl (by rfl) ?_ ?_; rotate_left; (intro w' hw'; go_simp; with_reducible rfl); simp only [Act.put, List.setIfInBounds_toArray, List.set_cons_zero, List.set_cons_succ])
                refine wpGt_call (o := ⟨_, _, _, _, _, _⟩) rfl (by rfl) (fun K hK => ?_)
                refine wp_store_yes (.tmp 75) (.tmp 69) rfl g14 k _ (!Y) (by rfl) (by rfl) k14 (bc_size _) hlt ?_
                intro U3 hk9 ht9
                refine hK _ _ (Hmo.out _ Hs.out.2.2.1 _ _ ht9) ?_
                clear hK K
                simp only [Act.put]
                have e9 := SL.out
                rw [Bool.true_and] at e9
                rw [e9] at hk9
                clear e9
                replace k12 := k12.turn ht9 (fun e => Hs.out.2.2.2.2.2.1 e.symm)
                replace k13 := k13.turn ht9 (fun e => Hs.out.2.2.2.2.2.2.2.1 e.symm)
                replace k14 := hk9
                replace k15 := k15.turn ht9 (fun e => Hs.out.2.2.2.2.2.2.2.2.2 e)
                replace hE : Ext u5 U3 := Below.trans hE (ht9.below hE.size (fun i hi => by subst hi; exact Hs.out.2.2.1))
                clear hk9 ht9
                iterate 1 (refine wpGt_read (o := ⟨_, _, _, _, _, _⟩) (v := ?_) rfl (by rfl) ?_ ?_; rotate_left; (intro w' hw'; go_simp; with_reducible rfl); simp only [Act.put, List.setIfInBounds_toArray, List.set_cons_zero, List.set_cons_succ])
                refine wpGt_call (o := ⟨_, _, _, _, _, _⟩) rfl (by rfl) (fun K hK => ?_)
                refine wp_store_yes (.tmp 76) (.tmp 72) rfl g15 k _ Z (by rfl) (by rfl) k15 (bc_size _) hlt ?_
                intro U4 hk9 ht9
                refine hK _ _ (Hmo.out _ Hs.out.2.2.2.1 _ _ ht9) ?_
                clear hK K
                simp only [Act.put]
                have e9 := SB.out
                rw [e9] at hk9
                clear e9
                replace k12 := k12.turn ht9 (fun e => Hs.out.2.2.2.2.2.2.1 e.symm)
                replace k13 := k13.turn ht9 (fun e => Hs.out.2.2.2.2.2.2.2.2.1 e.symm)
                replace k14 := k14.turn ht9 (fun e => Hs.out.2.2.2.2.2.2.2.2.2 e.symm)
                replace k15 := hk9
                replace hE : Ext u5 U4 := Below.trans hE (ht9.below hE.size (fun i hi => by subst hi; exact Hs.out.2.2.2.1))
                clear hk9 ht9
                have HK6 := Lib.hid (And.intro (And.intro k12 k13) (And.intro k14 k15))
                have HE6 := Lib.hid hE
                clear k12 k13 k14 k15 hE
                refine wpGt_done ?_
                go_wp2
                go_roundw
                case rel => exact ⟨k + 1, by go_num, by omega, HK6, HE6⟩
                case measure => simp [intOf]; omega
              | false => as_aux_lemma =>
                iterate 8 (refine wpGt_read (o := ⟨_, _, _, _, _, _⟩) (v := ?_) rfl (by rfl) ?_ ?_; rotate_left; (intro w' hw'; go_simp; with_reducible rfl); simp only [Act.put, List.setIfInBounds_toArray, List.set_cons_zero, List.set_cons_succ])
                iterate 3 (refine wpGt_skip (o := ⟨_, _, _, _, _, _⟩) rfl (by rfl) ?_; simp only [Act.put, List.setIfInBounds_toArray, List.set_cons_zero, List.set_cons_succ])
                iterate 5 (refine wpGt_read (o := ⟨_, _, _, _, _, _⟩) (v := ?_) rfl (by rfl) ?_ ?_; rotate_left; (intro w' hw'; go_simp; with_reducible rfl); simp only [Act.put, List.setIfInBounds_toArray, List.set_cons_zero, List.set_cons_succ])
                iterate 3 (refine wpGt_read (o := ⟨_, _, _, _, _, _⟩) (v := ?_) rfl (by rfl) ?_ ?_; rotate_left; (intro w' hw'; go_simp; with_reducible rfl); simp only [Act.put, List.setIfInBounds_toArray, List.set_cons_zero, List.set_cons_succ])
                iterate 5 (refine wpGt_read (o := ⟨_, _, _, _, _, _⟩) (v := ?_) rfl (by rfl) ?_ ?_; rotate_left; (intro w' hw'; go_simp; with_reducible rfl); simp only [Act.put, List.setIfInBounds_toArray, List.set_cons_zero, List.set_cons_succ])
                iterate 4 (refine wpGt_skip (o := ⟨_, _, _, _, _, _⟩) rfl (by rfl) ?_; simp only [Act.put, List.setIfInBounds_toArray, List.set_cons_zero, List.set_cons_succ])
                iterate 5 (refine wpGt_read (o := ⟨_, _, _, _, _, _⟩) (v := ?_) rfl (by rfl) ?_ ?_; rotate_left; (intro w' hw'; go_simp; with_reducible rfl); simp only [Act.put, List.setIfInBounds_toArray, List.set_cons_zero, List.set_cons_succ])
                clear hx hy
                have k12 := HK5.out.1.1
                have k13 := HK5.out.1.2
                have k14 := HK5.out.2.1
                have k15 := HK5.out.2.2
                have hE := HE5.out
                clear HK5 HE5
                refine wpGt_call (o := ⟨_, _, _, _, _, _⟩) rfl (by rfl) (fun K hK => ?_)
                refine wp_store_yes (.tmp 73) (.tmp 52) rfl g12 k _ false (by rfl) (by rfl) k12 (bc_size _) hlt ?_
                intro U1 hk9 ht9
                refine hK _ _ (Hmo.out _ Hs.out.1 _ _ ht9) ?_
                clear hK K
                simp only [Act.put]
                have e9 := SA.out
                rw [Bool.false_and] at e9
                rw [e9] at hk9
                clear e9
                replace k12 := hk9
                replace k13 := k13.turn ht9 (fun e => Hs.out.2.2.2.2.1 e)
                replace k14 := k14.turn ht9 (fun e => Hs.out.2.2.2.2.2.1 e)
                replace k15 := k15.turn ht9 (fun e => Hs.out.2.2.2.2.2.2.1 e)
                replace hE : Ext u5 U1 := Below.trans hE (ht9.below hE.size (fun i hi => by subst hi; exact Hs.out.1))
                clear hk9 ht9
                iterate 1 (refine wpGt_read (o := ⟨_, _, _, _, _, _⟩) (v := ?_) rfl (by rfl) ?_ ?_; rotate_left; (intro w' hw'; go_simp; with_reducible rfl); simp only [Act.put, List.setIfInBounds_toArray, List.set_cons_zero, List.set_cons_succ])
                refine wpGt_call (o := ⟨_, _, _, _, _, _⟩) rfl (by rfl) (fun K hK => ?_)
                refine wp_store_yes (.tmp 74) (.tmp 60) rfl g13 k _ Y (by rfl) (by rfl) k13 (bc_size _) hlt ?_
                intro U2 hk9 ht9
                refine hK _ _ (Hmo.out _ Hs.out.2.1 _ _ ht9) ?_
                clear hK K
                simp only [Act.put]
                have e9 := SO.out
                rw [Bool.false_or] at e9
                rw [e9] at hk9
                clear e9
                replace k12 := k12.turn ht9 (fun e => Hs.out.2.2.2.2.1 e.symm)
                replace k13 := hk9
                replace k14 := k14.turn ht9 (fun e => Hs.out.2.2.2.2.2.2.2.1 e)
                replace k15 := k15.turn ht9 (fun e => Hs.out.2.2.2.2.2.2.2.2.1 e)
                replace hE : Ext u5 U2 := Below.trans hE (ht9.below hE.size (fun i hi => by subst hi; exact Hs.out.2.1))
                clear hk9 ht9
                iterate 1 (refine wpGt_read (o := ⟨_, _, _, _, _, _⟩) (v := ?_) rfl (by rfl) ?_ ?_; rotate_left; (intro w' hw'; go_simp; with_reducible rfl); simp only [Act.put, List.setIfInBounds_toArray, List.set_cons_zero, List.set_cons_succ])
                refine wpGt_call (o := ⟨_, _, _, _, _, _⟩) rfl (by rfl) (fun K hK => ?_)
                refine wp_store_yes (.tmp 75) (.tmp 69) rfl g14 k _ false (by rfl) (by rfl) k14 (bc_size _) hlt ?_
                intro U3 hk9 ht9
                refine hK _ _ (Hmo.out _ Hs.out.2.2.1 _ _ ht9) ?_
                clear hK K
                simp only [Act.put]
                have e9 := SL.out
                rw [Bool.false_and] at e9
                rw [e9] at hk9
                clear e9
                replace k12 := k12.turn ht9 (fun e => Hs.out.2.2.2.2.2.1 e.symm)
                replace k13 := k13.turn ht9 (fun e => Hs.out.2.2.2.2.2.2.2.1 e.symm)
                replace k14 := hk9
                replace k15 := k15.turn ht9 (fun e => Hs.out.2.2.2.2.2.2.2.2.2 e)
                replace hE : Ext u5 U3 := Below.trans hE (ht9.below hE.size (fun i hi => by subst hi; exact Hs.out.2.2.1))
                clear hk9 ht9
                iterate 1 (refine wpGt_read (o := ⟨_, _, _, _, _, _⟩) (v := ?_) rfl (by rfl) ?_ ?_; rotate_left; (intro w' hw'; go_simp; with_reducible rfl); simp only [Act.put, List.setIfInBounds_toArray, List.set_cons_zero, List.set_cons_succ])
                refine wpGt_call (o := ⟨_, _, _, _, _, _⟩) rfl (by rfl) (fun K hK => ?_)
                refine wp_store_yes (.tmp 76) (.tmp 72) rfl g15 k _ Z (by rfl) (by rfl) k15 (bc_size _) hlt ?_
                intro U4 hk9 ht9
                refine hK _ _ (Hmo.out _ Hs.out.2.2.2.1 _ _ ht9) ?_
                clear hK K
                simp only [Act.put]
                have e9 := SB.out
                rw [e9] at hk9
                clear e9
                replace k12 := k12.turn ht9 (fun e => Hs.out.2.2.2.2.2.2.1 e.symm)
                replace k13 := k13.turn ht9 (fun e => Hs.out.2.2.2.2.2.2.2.2.1 e.symm)
                replace k14 := k14.turn ht9 (fun e => Hs.out.2.2.2.2.2.2.2.2.2 e.symm)
                replace k15 := hk9
                replace hE : Ext u5 U4 := Below.trans hE (ht9.below hE.size (fun i hi => by subst hi; exact Hs.out.2.2.2.1))
                clear hk9 ht9
                have HK6 := Lib.hid (And.intro (And.intro k12 k13) (And.intro k14 k15))
                have HE6 := Lib.hid hE
                clear k12 k13 k14 k15 hE
                refine wpGt_done ?_
                go_wp2
                go_roundw
                case rel => exact ⟨k + 1, by go_num, by omega, HK6, HE6⟩
                case measure => simp [intOf]; omega
            · obtain rfl : k = 1024 := by omega
              have hk9 := HKr.out
              rw [HoaA.out, HoaO.out, HoaL.out, HoaB.out] at hk9
              have K12 := Lib.hid hk9.1.1
              have K13 := Lib.hid hk9.1.2
              have K14 := Lib.hid hk9.2.1
              have K15 := Lib.hid hk9.2.2
              have hb := HEr.out
              clear hk9 HKr HEr
              replace HB := Lib.hid (HB.out.trans (hb.mono HB.out.size))
              replace K3 := Lib.hid (K3.out.ext hb)
              replace K4 := Lib.hid (K4.out.ext hb)
              replace K7 := Lib.hid (K7.out.ext hb)
              replace K8 := Lib.hid (K8.out.ext hb)
              replace K10 := Lib.hid (K10.out.ext hb)
              replace K11 := Lib.hid (K11.out.ext hb)
              clear hb
              clear HofA HozA
              clear HofO HozO
              clear HofL HozL
              clear HofB HozB
              go_wp2_with fail
              refine wp_region_gr [(0, true), (2, true), (1, false), (3, false), (4, true), (5, true)] (by kernel_rfl) (by kernel_rfl) (by kernel_rfl) (by kernel_rfl) (fun _ _ _ _ _ h => h) ?_
              have hb : Ext wr wr.drew := Ext.drew _
              replace HB := Lib.hid (HB.out.trans (hb.mono HB.out.size))
              replace K3 := Lib.hid (K3.out.ext hb)
              replace K4 := Lib.hid (K4.out.ext hb)
              replace K7 := Lib.hid (K7.out.ext hb)
              replace K8 := Lib.hid (K8.out.ext hb)
              replace K10 := Lib.hid (K10.out.ext hb)
              replace K11 := Lib.hid (K11.out.ext hb)
              replace K12 := Lib.hid (K12.out.ext hb)
              replace K13 := Lib.hid (K13.out.ext hb)
              replace K14 := Lib.hid (K14.out.ext hb)
              replace K15 := Lib.hid (K15.out.ext hb)
              clear hb
              generalize wr.drew = u6 at *
              refine wpGr_read (o := ⟨_, _, _, _, _, _⟩) (v := .agg (sc f)) rfl (by rfl) (fun w' hw' => rd_load_sc TW (.tmp 3) rfl g3 f TW (by rfl) arr_TW (K3.out.ext hw')) ?_
              simp only [Act.put, List.setIfInBounds_toArray, List.set_cons_zero, List.set_cons_succ]
              refine wpGr_read (o := ⟨_, _, _, _, _, _⟩) (v := .agg (bc f)) rfl (by rfl) (fun w' hw' => rd_load_bc (.tmp 7) rfl g7 f (by rfl) (K7.out.ext hw')) ?_
              simp only [Act.put, List.setIfInBounds_toArray, List.set_cons_zero, List.set_cons_succ]
              refine wpGr_call (o := ⟨_, _, _, _, _, _⟩) rfl (by rfl) (fun K hK => ?_)
              go_simp
              refine (Call.out u6 (HTw.out.below HB.out)).mono ?_
              rintro e u7 ⟨v1, rfl, ho1, hb⟩
              obtain ⟨pa, qa, rfl, hp1, _, hq1, hq2⟩ := own_pages ho1
              rw [HLen.out] at hq1 ⊢
              have HP1 := Lib.hid hp1
              refine hK _ _ hb ?_
              clear hK K ho1 hp1
              replace HB := Lib.hid (HB.out.trans (hb.mono HB.out.size))
              replace K3 := Lib.hid (K3.out.ext hb)
              replace K4 := Lib.hid (K4.out.ext hb)
              replace K7 := Lib.hid (K7.out.ext hb)
              replace K8 := Lib.hid (K8.out.ext hb)
              replace K10 := Lib.hid (K10.out.ext hb)
              replace K11 := Lib.hid (K11.out.ext hb)
              replace K12 := Lib.hid (K12.out.ext hb)
              replace K13 := Lib.hid (K13.out.ext hb)
              replace K14 := Lib.hid (K14.out.ext hb)
              replace K15 := Lib.hid (K15.out.ext hb)
              clear hb
              refine wpGr_call (o := ⟨_, _, _, _, _, _⟩) rfl (by rfl) (fun K hK => ?_)
              go_simp
              refine (Cref.out u7).mono ?_
              rintro e u8 ⟨v1, rfl, ho1, hb⟩
              obtain ⟨pb, qb, rfl, hp1, _, hq3, hq4⟩ := ho1
              rw [HLen.out] at hq3 ⊢
              have HP2 := Lib.hid hp1
              refine hK _ _ hb ?_
              clear hK K hp1
              replace HB := Lib.hid (HB.out.trans (hb.mono HB.out.size))
              replace K3 := Lib.hid (K3.out.ext hb)
              replace K4 := Lib.hid (K4.out.ext hb)
              replace K7 := Lib.hid (K7.out.ext hb)
              replace K8 := Lib.hid (K8.out.ext hb)
              replace K10 := Lib.hid (K10.out.ext hb)
              replace K11 := Lib.hid (K11.out.ext hb)
              replace K12 := Lib.hid (K12.out.ext hb)
              replace K13 := Lib.hid (K13.out.ext hb)
              replace K14 := Lib.hid (K14.out.ext hb)
              replace K15 := Lib.hid (K15.out.ext hb)
              replace HP1 := Lib.hid (HP1.out.below hb (Nat.le_refl _))
              clear hb
              iterate 2 (refine wpGr_read (o := ⟨_, _, _, _, _, _⟩) (v := ?_) rfl (by rfl) ?_ ?_; rotate_left; (intro w' hw'; go_simp; with_reducible rfl); simp only [Act.put, List.setIfInBounds_toArray, List.set_cons_zero, List.set_cons_succ])
              refine wpGr_done ?_
              go_wp2_with (first | (show wpList _ _ _ (⟨some 87, _, _, _, _, _⟩ :: _) _ _; refine wpList_load_when (by rfl) TW (.tmp 3) rfl g3 f TW (by rfl) arr_TW K3.out ?_))
              refine (DC.out u8).mono ?_
              rintro e u9 ⟨rfl, hb⟩
              replace HB := Lib.hid (HB.out.trans (hb.mono HB.out.size))
              replace K3 := Lib.hid (K3.out.ext hb)
              replace K4 := Lib.hid (K4.out.ext hb)
              replace K7 := Lib.hid (K7.out.ext hb)
              replace K8 := Lib.hid (K8.out.ext hb)
              replace K10 := Lib.hid (K10.out.ext hb)
              replace K11 := Lib.hid (K11.out.ext hb)
              replace K12 := Lib.hid (K12.out.ext hb)
              replace K13 := Lib.hid (K13.out.ext hb)
              replace K14 := Lib.hid (K14.out.ext hb)
              replace K15 := Lib.hid (K15.out.ext hb)
              replace HP1 := Lib.hid (HP1.out.below hb (Nat.le_refl _))
              replace HP2 := Lib.hid (HP2.out.below hb (Nat.le_refl _))
              clear hb
              go_wp2_with fail
              go_loopw [19] (fun i wr => ∃ k : Nat, i = .int .i64 k ∧ k ≤ C ∧ Hid (Ext u9 wr)) (fun i _ => C - (intOf i).toNat)
              case atStart => exact ⟨0, rfl, by omega, Ext.refl _⟩
              case round =>
                obtain ⟨k, rfl, hk, HEr⟩ := hrel
                by_cases hlt : k < C
                · have hlt2 : (k : Int) < (C : Int) := by omega
                  have k0 : (0 : Int) ≤ (k : Int) := by omega
                  have kw : IntKind.i64.wrap (k : Int) = (k : Int) := by rw [IntKind.wrap_i64]; omega
                  obtain ⟨ga, oa, rfl, hc1⟩ := HP1.out (by rw [HLen.out]; omega)
                  obtain ⟨gb, ob, rfl, hc2⟩ := HP2.out (by rw [HLen.out]; omega)
                  have hd1 := hc1 k (by rw [HLen.out]; exact hlt)
                  have hd2 := hc2 k (by rw [HLen.out]; exact hlt)
                  generalize ia LT k = E at *
                  go_wp2_with fail
                  refine wp_region_gr [(0, true), (1, true), (2, true), (3, true), (4, true), (5, true), (6, true), (7, true), (8, true)] (by kernel_rfl) (by kernel_rfl) (by kernel_rfl) (by kernel_rfl) (fun _ _ _ _ _ h => h) ?_
                  have HE5 : Hid (Ext u9 wr.drew) := Ext.trans HEr.out (Ext.drew _)
                  generalize wr.drew = U at *
                  have ha : ∀ w', Ext U w' → w'.cell? ⟨ga, oa + k, none⟩ = some (.int .i64 E) := fun w' he => ((HE5.out.trans he).cell (p := ⟨ga, oa + k, none⟩) (block_lt_of_cell hd1)).trans hd1
                  have hb : ∀ w', Ext U w' → w'.cell? ⟨gb, ob + k, none⟩ = some (.int .i64 E) := fun w' he => ((HE5.out.trans he).cell (p := ⟨gb, ob + k, none⟩) (block_lt_of_cell hd2)).trans hd2
                  clear hc1 hc2 hd1 hd2 HEr
                  as_aux_lemma =>
                  iterate 9 (refine wpGr_read (o := ⟨_, _, _, _, _, _⟩) (v := ?_) rfl (by rfl) ?_ ?_; rotate_left; (intro w' hw'; go_simp; with_reducible rfl); simp only [Act.put, List.setIfInBounds_toArray, List.set_cons_zero, List.set_cons_succ])
                  refine wpGr_done ?_
                  go_wp2
                  go_roundw
                  case rel => exact ⟨k + 1, by go_num, by omega, HE5⟩
                  case measure => simp [intOf]; omega
                · obtain rfl : k = C := by omega
                  have hlt2 : ¬ (k : Int) < (k : Int) := by omega
                  have hb := HEr.out
                  clear HEr
                  replace HB := Lib.hid (HB.out.trans (hb.mono HB.out.size))
                  replace K3 := Lib.hid (K3.out.ext hb)
                  replace K4 := Lib.hid (K4.out.ext hb)
                  replace K7 := Lib.hid (K7.out.ext hb)
                  replace K8 := Lib.hid (K8.out.ext hb)
                  replace K10 := Lib.hid (K10.out.ext hb)
                  replace K11 := Lib.hid (K11.out.ext hb)
                  replace K12 := Lib.hid (K12.out.ext hb)
                  replace K13 := Lib.hid (K13.out.ext hb)
                  replace K14 := Lib.hid (K14.out.ext hb)
                  replace K15 := Lib.hid (K15.out.ext hb)
                  replace HP1 := Lib.hid (HP1.out.below hb (Nat.le_refl _))
                  replace HP2 := Lib.hid (HP2.out.below hb (Nat.le_refl _))
                  clear hb HP1 HP2
                  go_upto_region 19 with fail
                  go_cut [134] (fun s wx => s = .bool false ∧ Hid (Ext wr wx))
                  case first =>
                    have HQ := Lib.hid (Ext.refl wr)
                    refine wp_region_gr [(0, true), (1, true), (3, true), (2, false), (4, true), (5, true), (6, true), (7, true), (8, true), (9, true), (10, true), (11, true), (12, true), (13, true), (15, true), (14, false), (16, false), (17, true), (18, true), (19, true), (20, true), (21, true), (23, true), (22, false), (24, false), (25, true), (26, true)] (by kernel_rfl) (by kernel_rfl) (by kernel_rfl) (by kernel_rfl) (fun _ _ _ _ _ h => h) ?_
                    have hb : Ext wr wr.drew := Ext.drew _
                    replace HB := Lib.hid (HB.out.trans (hb.mono HB.out.size))
                    replace K3 := Lib.hid (K3.out.ext hb)
                    replace K4 := Lib.hid (K4.out.ext hb)
                    replace K7 := Lib.hid (K7.out.ext hb)
                    replace K8 := Lib.hid (K8.out.ext hb)
                    replace K10 := Lib.hid (K10.out.ext hb)
                    replace K11 := Lib.hid (K11.out.ext hb)
                    replace K12 := Lib.hid (K12.out.ext hb)
                    replace K13 := Lib.hid (K13.out.ext hb)
                    replace K14 := Lib.hid (K14.out.ext hb)
                    replace K15 := Lib.hid (K15.out.ext hb)
                    replace HQ := Lib.hid (HQ.out.trans hb)
                    clear hb
                    generalize wr.drew = u10 at *
                    refine wpGr_read (o := ⟨_, _, _, _, _, _⟩) (v := .agg (sc f)) rfl (by rfl) (fun w' hw' => rd_load_sc TW (.tmp 3) rfl g3 f TW (by rfl) arr_TW (K3.out.ext hw')) ?_
                    simp only [Act.put, List.setIfInBounds_toArray, List.set_cons_zero, List.set_cons_succ]
                    iterate 2 (refine wpGr_read (o := ⟨_, _, _, _, _, _⟩) (v := ?_) rfl (by rfl) ?_ ?_; rotate_left; (intro w' hw'; go_simp; with_reducible rfl); simp only [Act.put, List.setIfInBounds_toArray, List.set_cons_zero, List.set_cons_succ])
                    refine wpGr_call (o := ⟨_, _, _, _, _, _⟩) rfl (by rfl) (fun K hK => ?_)
                    go_simp
                    refine (CHas.out u10).mono ?_
                    rintro e u11 ⟨rfl, hb⟩
                    refine hK _ _ hb ?_
                    clear hK K
                    replace HB := Lib.hid (HB.out.trans (hb.mono HB.out.size))
                    replace K3 := Lib.hid (K3.out.ext hb)
                    replace K4 := Lib.hid (K4.out.ext hb)
                    replace K7 := Lib.hid (K7.out.ext hb)
                    replace K8 := Lib.hid (K8.out.ext hb)
                    replace K10 := Lib.hid (K10.out.ext hb)
                    replace K11 := Lib.hid (K11.out.ext hb)
                    replace K12 := Lib.hid (K12.out.ext hb)
                    replace K13 := Lib.hid (K13.out.ext hb)
                    replace K14 := Lib.hid (K14.out.ext hb)
                    replace K15 := Lib.hid (K15.out.ext hb)
                    replace HQ := Lib.hid (HQ.out.trans hb)
                    clear hb
                    cases D with
                    | true => as_aux_lemma =>
                      obtain ⟨n, rfl⟩ : ∃ n : Nat, x = (n : Int) := ⟨x.toNat, by
                        have := HD9.out; rw [Bool.and_eq_true, decide_eq_true_iff, decide_eq_true_iff] at this; omega⟩
                      have hn : n < 1024 := by
                        have := HD9.out; rw [Bool.and_eq_true, decide_eq_true_iff, decide_eq_true_iff] at this; omega
                      have n0 : (0 : Int) ≤ (n : Int) := by omega
                      have n1 : (n : Int) < 1024 := by omega
                      have nw : IntKind.i64.wrap (n : Int) = (n : Int) := by rw [IntKind.wrap_i64]; omega
                      have na := and_1023 n hn
                      rw [inB_nat f n hn]
                      have hcx : ∀ w', Ext u11 w' → w'.cell? ⟨g7, n, none⟩ = some (.bool (f n)) := fun w' he => (K7.out.ext he).yes n hn
                      generalize f n = X at *
                      iterate 8 (refine wpGr_read (o := ⟨_, _, _, _, _, _⟩) (v := ?_) rfl (by rfl) ?_ ?_; rotate_left; (intro w' hw'; go_simp; with_reducible rfl); simp only [Act.put, List.setIfInBounds_toArray, List.set_cons_zero, List.set_cons_succ])
                      clear hcx
                      refine wpGr_read (o := ⟨_, _, _, _, _, _⟩) (v := .agg (sc f)) rfl (by rfl) (fun w' hw' => rd_load_sc TW (.tmp 3) rfl g3 f TW (by rfl) arr_TW (K3.out.ext hw')) ?_
                      simp only [Act.put, List.setIfInBounds_toArray, List.set_cons_zero, List.set_cons_succ]
                      iterate 1 (refine wpGr_read (o := ⟨_, _, _, _, _, _⟩) (v := ?_) rfl (by rfl) ?_ ?_; rotate_left; (intro w' hw'; go_simp; with_reducible rfl); simp only [Act.put, List.setIfInBounds_toArray, List.set_cons_zero, List.set_cons_succ])
                      refine wpGr_read (o := ⟨_, _, _, _, _, _⟩) (v := .agg (bc WI)) rfl (by rfl) (fun w' hw' => rd_load_bc (.tmp 10) rfl g10 WI (by rfl) (K10.out.ext hw')) ?_
                      simp only [Act.put, List.setIfInBounds_toArray, List.set_cons_zero, List.set_cons_succ]
                      refine wpGr_call (o := ⟨_, _, _, _, _, _⟩) rfl (by rfl) (fun K hK => ?_)
                      go_simp
                      refine (CW.out u11).mono ?_
                      rintro e u12 ⟨rfl, hb⟩
                      refine hK _ _ hb ?_
                      clear hK K
                      replace HB := Lib.hid (HB.out.trans (hb.mono HB.out.size))
                      replace K3 := Lib.hid (K3.out.ext hb)
                      replace K4 := Lib.hid (K4.out.ext hb)
                      replace K7 := Lib.hid (K7.out.ext hb)
                      replace K8 := Lib.hid (K8.out.ext hb)
                      replace K10 := Lib.hid (K10.out.ext hb)
                      replace K11 := Lib.hid (K11.out.ext hb)
                      replace K12 := Lib.hid (K12.out.ext hb)
                      replace K13 := Lib.hid (K13.out.ext hb)
                      replace K14 := Lib.hid (K14.out.ext hb)
                      replace K15 := Lib.hid (K15.out.ext hb)
                      replace HQ := Lib.hid (HQ.out.trans hb)
                      clear hb
                      refine wpGr_call (o := ⟨_, _, _, _, _, _⟩) rfl (by rfl) (fun K hK => ?_)
                      go_simp
                      refine (CSI.out u12).mono ?_
                      rintro e u13 ⟨rfl, hb⟩
                      refine hK _ _ hb ?_
                      clear hK K
                      replace HB := Lib.hid (HB.out.trans (hb.mono HB.out.size))
                      replace K3 := Lib.hid (K3.out.ext hb)
                      replace K4 := Lib.hid (K4.out.ext hb)
                      replace K7 := Lib.hid (K7.out.ext hb)
                      replace K8 := Lib.hid (K8.out.ext hb)
                      replace K10 := Lib.hid (K10.out.ext hb)
                      replace K11 := Lib.hid (K11.out.ext hb)
                      replace K12 := Lib.hid (K12.out.ext hb)
                      replace K13 := Lib.hid (K13.out.ext hb)
                      replace K14 := Lib.hid (K14.out.ext hb)
                      replace K15 := Lib.hid (K15.out.ext hb)
                      replace HQ := Lib.hid (HQ.out.trans hb)
                      clear hb
                      refine wpGr_read (o := ⟨_, _, _, _, _, _⟩) (v := .bool false) rfl (by rfl) (fun w' _ => rd_neq_sc (.tmp 122) (.tmp 124) TS rfl WI WI (by rfl) (by rfl) rfl) ?_
                      simp only [Act.put, List.setIfInBounds_toArray, List.set_cons_zero, List.set_cons_succ]
                      iterate 2 (refine wpGr_read (o := ⟨_, _, _, _, _, _⟩) (v := ?_) rfl (by rfl) ?_ ?_; rotate_left; (intro w' hw'; go_simp; with_reducible rfl); simp only [Act.put, List.setIfInBounds_toArray, List.set_cons_zero, List.set_cons_succ])
                      refine wpGr_read (o := ⟨_, _, _, _, _, _⟩) (v := .agg (sc f)) rfl (by rfl) (fun w' hw' => rd_load_sc TW (.tmp 3) rfl g3 f TW (by rfl) arr_TW (K3.out.ext hw')) ?_
                      simp only [Act.put, List.setIfInBounds_toArray, List.set_cons_zero, List.set_cons_succ]
                      iterate 1 (refine wpGr_read (o := ⟨_, _, _, _, _, _⟩) (v := ?_) rfl (by rfl) ?_ ?_; rotate_left; (intro w' hw'; go_simp; with_reducible rfl); simp only [Act.put, List.setIfInBounds_toArray, List.set_cons_zero, List.set_cons_succ])
                      refine wpGr_read (o := ⟨_, _, _, _, _, _⟩) (v := .agg (bc WO)) rfl (by rfl) (fun w' hw' => rd_load_bc (.tmp 11) rfl g11 WO (by rfl) (K11.out.ext hw')) ?_
                      simp only [Act.put, List.setIfInBounds_toArray, List.set_cons_zero, List.set_cons_succ]
                      refine wpGr_call (o := ⟨_, _, _, _, _, _⟩) rfl (by rfl) (fun K hK => ?_)
                      go_simp
                      refine (CO.out u13).mono ?_
                      rintro e u14 ⟨rfl, hb⟩
                      refine hK _ _ hb ?_
                      clear hK K
                      replace HB := Lib.hid (HB.out.trans (hb.mono HB.out.size))
                      replace K3 := Lib.hid (K3.out.ext hb)
                      replace K4 := Lib.hid (K4.out.ext hb)
                      replace K7 := Lib.hid (K7.out.ext hb)
                      replace K8 := Lib.hid (K8.out.ext hb)
                      replace K10 := Lib.hid (K10.out.ext hb)
                      replace K11 := Lib.hid (K11.out.ext hb)
                      replace K12 := Lib.hid (K12.out.ext hb)
                      replace K13 := Lib.hid (K13.out.ext hb)
                      replace K14 := Lib.hid (K14.out.ext hb)
                      replace K15 := Lib.hid (K15.out.ext hb)
                      replace HQ := Lib.hid (HQ.out.trans hb)
                      clear hb
                      refine wpGr_call (o := ⟨_, _, _, _, _, _⟩) rfl (by rfl) (fun K hK => ?_)
                      go_simp
                      refine (CSO.out u14).mono ?_
                      rintro e u15 ⟨rfl, hb⟩
                      refine hK _ _ hb ?_
                      clear hK K
                      replace HB := Lib.hid (HB.out.trans (hb.mono HB.out.size))
                      replace K3 := Lib.hid (K3.out.ext hb)
                      replace K4 := Lib.hid (K4.out.ext hb)
                      replace K7 := Lib.hid (K7.out.ext hb)
                      replace K8 := Lib.hid (K8.out.ext hb)
                      replace K10 := Lib.hid (K10.out.ext hb)
                      replace K11 := Lib.hid (K11.out.ext hb)
                      replace K12 := Lib.hid (K12.out.ext hb)
                      replace K13 := Lib.hid (K13.out.ext hb)
                      replace K14 := Lib.hid (K14.out.ext hb)
                      replace K15 := Lib.hid (K15.out.ext hb)
                      replace HQ := Lib.hid (HQ.out.trans hb)
                      clear hb
                      refine wpGr_read (o := ⟨_, _, _, _, _, _⟩) (v := .bool false) rfl (by rfl) (fun w' _ => rd_neq_sc (.tmp 130) (.tmp 132) TS rfl WO WO (by rfl) (by rfl) rfl) ?_
                      simp only [Act.put, List.setIfInBounds_toArray, List.set_cons_zero, List.set_cons_succ]
                      iterate 1 (refine wpGr_read (o := ⟨_, _, _, _, _, _⟩) (v := ?_) rfl (by rfl) ?_ ?_; rotate_left; (intro w' hw'; go_simp; with_reducible rfl); simp only [Act.put, List.setIfInBounds_toArray, List.set_cons_zero, List.set_cons_succ])
                      refine wpGr_done ?_
                      go_wp2
                      go_meet
                      exact ⟨rfl, HQ⟩
                    | false => as_aux_lemma =>
                      rw [inB_out f x (by
                        have := HD9.out; rw [Bool.and_eq_false_iff, decide_eq_false_iff_not, decide_eq_false_iff_not] at this; omega)]
                      iterate 1 (refine wpGr_read (o := ⟨_, _, _, _, _, _⟩) (v := ?_) rfl (by rfl) ?_ ?_; rotate_left; (intro w' hw'; go_simp; with_reducible rfl); simp only [Act.put, List.setIfInBounds_toArray, List.set_cons_zero, List.set_cons_succ])
                      iterate 4 (refine wpGr_skip (o := ⟨_, _, _, _, _, _⟩) rfl (by rfl) ?_; simp only [Act.put, List.setIfInBounds_toArray, List.set_cons_zero, List.set_cons_succ])
                      iterate 3 (refine wpGr_read (o := ⟨_, _, _, _, _, _⟩) (v := ?_) rfl (by rfl) ?_ ?_; rotate_left; (intro w' hw'; go_simp; with_reducible rfl); simp only [Act.put, List.setIfInBounds_toArray, List.set_cons_zero, List.set_cons_succ])
                      refine wpGr_read (o := ⟨_, _, _, _, _, _⟩) (v := .agg (sc f)) rfl (by rfl) (fun w' hw' => rd_load_sc TW (.tmp 3) rfl g3 f TW (by rfl) arr_TW (K3.out.ext hw')) ?_
                      simp only [Act.put, List.setIfInBounds_toArray, List.set_cons_zero, List.set_cons_succ]
                      iterate 1 (refine wpGr_read (o := ⟨_, _, _, _, _, _⟩) (v := ?_) rfl (by rfl) ?_ ?_; rotate_left; (intro w' hw'; go_simp; with_reducible rfl); simp only [Act.put, List.setIfInBounds_toArray, List.set_cons_zero, List.set_cons_succ])
                      refine wpGr_read (o := ⟨_, _, _, _, _, _⟩) (v := .agg (bc WI)) rfl (by rfl) (fun w' hw' => rd_load_bc (.tmp 10) rfl g10 WI (by rfl) (K10.out.ext hw')) ?_
                      simp only [Act.put, List.setIfInBounds_toArray, List.set_cons_zero, List.set_cons_succ]
                      refine wpGr_call (o := ⟨_, _, _, _, _, _⟩) rfl (by rfl) (fun K hK => ?_)
                      go_simp
                      refine (CW.out u11).mono ?_
                      rintro e u12 ⟨rfl, hb⟩
                      refine hK _ _ hb ?_
                      clear hK K
                      replace HB := Lib.hid (HB.out.trans (hb.mono HB.out.size))
                      replace K3 := Lib.hid (K3.out.ext hb)
                      replace K4 := Lib.hid (K4.out.ext hb)
                      replace K7 := Lib.hid (K7.out.ext hb)
                      replace K8 := Lib.hid (K8.out.ext hb)
                      replace K10 := Lib.hid (K10.out.ext hb)
                      replace K11 := Lib.hid (K11.out.ext hb)
                      replace K12 := Lib.hid (K12.out.ext hb)
                      replace K13 := Lib.hid (K13.out.ext hb)
                      replace K14 := Lib.hid (K14.out.ext hb)
                      replace K15 := Lib.hid (K15.out.ext hb)
                      replace HQ := Lib.hid (HQ.out.trans hb)
                      clear hb
                      refine wpGr_call (o := ⟨_, _, _, _, _, _⟩) rfl (by rfl) (fun K hK => ?_)
                      go_simp
                      refine (CSI.out u12).mono ?_
                      rintro e u13 ⟨rfl, hb⟩
                      refine hK _ _ hb ?_
                      clear hK K
                      replace HB := Lib.hid (HB.out.trans (hb.mono HB.out.size))
                      replace K3 := Lib.hid (K3.out.ext hb)
                      replace K4 := Lib.hid (K4.out.ext hb)
                      replace K7 := Lib.hid (K7.out.ext hb)
                      replace K8 := Lib.hid (K8.out.ext hb)
                      replace K10 := Lib.hid (K10.out.ext hb)
                      replace K11 := Lib.hid (K11.out.ext hb)
                      replace K12 := Lib.hid (K12.out.ext hb)
                      replace K13 := Lib.hid (K13.out.ext hb)
                      replace K14 := Lib.hid (K14.out.ext hb)
                      replace K15 := Lib.hid (K15.out.ext hb)
                      replace HQ := Lib.hid (HQ.out.trans hb)
                      clear hb
                      refine wpGr_read (o := ⟨_, _, _, _, _, _⟩) (v := .bool false) rfl (by rfl) (fun w' _ => rd_neq_sc (.tmp 122) (.tmp 124) TS rfl WI WI (by rfl) (by rfl) rfl) ?_
                      simp only [Act.put, List.setIfInBounds_toArray, List.set_cons_zero, List.set_cons_succ]
                      iterate 2 (refine wpGr_read (o := ⟨_, _, _, _, _, _⟩) (v := ?_) rfl (by rfl) ?_ ?_; rotate_left; (intro w' hw'; go_simp; with_reducible rfl); simp only [Act.put, List.setIfInBounds_toArray, List.set_cons_zero, List.set_cons_succ])
                      refine wpGr_read (o := ⟨_, _, _, _, _, _⟩) (v := .agg (sc f)) rfl (by rfl) (fun w' hw' => rd_load_sc TW (.tmp 3) rfl g3 f TW (by rfl) arr_TW (K3.out.ext hw')) ?_
                      simp only [Act.put, List.setIfInBounds_toArray, List.set_cons_zero, List.set_cons_succ]
                      iterate 1 (refine wpGr_read (o := ⟨_, _, _, _, _, _⟩) (v := ?_) rfl (by rfl) ?_ ?_; rotate_left; (intro w' hw'; go_simp; with_reducible rfl); simp only [Act.put, List.setIfInBounds_toArray, List.set_cons_zero, List.set_cons_succ])
                      refine wpGr_read (o := ⟨_, _, _, _, _, _⟩) (v := .agg (bc WO)) rfl (by rfl) (fun w' hw' => rd_load_bc (.tmp 11) rfl g11 WO (by rfl) (K11.out.ext hw')) ?_
                      simp only [Act.put, List.setIfInBounds_toArray, List.set_cons_zero, List.set_cons_succ]
                      refine wpGr_call (o := ⟨_, _, _, _, _, _⟩) rfl (by rfl) (fun K hK => ?_)
                      go_simp
                      refine (CO.out u13).mono ?_
                      rintro e u14 ⟨rfl, hb⟩
                      refine hK _ _ hb ?_
                      clear hK K
                      replace HB := Lib.hid (HB.out.trans (hb.mono HB.out.size))
                      replace K3 := Lib.hid (K3.out.ext hb)
                      replace K4 := Lib.hid (K4.out.ext hb)
                      replace K7 := Lib.hid (K7.out.ext hb)
                      replace K8 := Lib.hid (K8.out.ext hb)
                      replace K10 := Lib.hid (K10.out.ext hb)
                      replace K11 := Lib.hid (K11.out.ext hb)
                      replace K12 := Lib.hid (K12.out.ext hb)
                      replace K13 := Lib.hid (K13.out.ext hb)
                      replace K14 := Lib.hid (K14.out.ext hb)
                      replace K15 := Lib.hid (K15.out.ext hb)
                      replace HQ := Lib.hid (HQ.out.trans hb)
                      clear hb
                      refine wpGr_call (o := ⟨_, _, _, _, _, _⟩) rfl (by rfl) (fun K hK => ?_)
                      go_simp
                      refine (CSO.out u14).mono ?_
                      rintro e u15 ⟨rfl, hb⟩
                      refine hK _ _ hb ?_
                      clear hK K
                      replace HB := Lib.hid (HB.out.trans (hb.mono HB.out.size))
                      replace K3 := Lib.hid (K3.out.ext hb)
                      replace K4 := Lib.hid (K4.out.ext hb)
                      replace K7 := Lib.hid (K7.out.ext hb)
                      replace K8 := Lib.hid (K8.out.ext hb)
                      replace K10 := Lib.hid (K10.out.ext hb)
                      replace K11 := Lib.hid (K11.out.ext hb)
                      replace K12 := Lib.hid (K12.out.ext hb)
                      replace K13 := Lib.hid (K13.out.ext hb)
                      replace K14 := Lib.hid (K14.out.ext hb)
                      replace K15 := Lib.hid (K15.out.ext hb)
                      replace HQ := Lib.hid (HQ.out.trans hb)
                      clear hb
                      refine wpGr_read (o := ⟨_, _, _, _, _, _⟩) (v := .bool false) rfl (by rfl) (fun w' _ => rd_neq_sc (.tmp 130) (.tmp 132) TS rfl WO WO (by rfl) (by rfl) rfl) ?_
                      simp only [Act.put, List.setIfInBounds_toArray, List.set_cons_zero, List.set_cons_succ]
                      iterate 1 (refine wpGr_read (o := ⟨_, _, _, _, _, _⟩) (v := ?_) rfl (by rfl) ?_ ?_; rotate_left; (intro w' hw'; go_simp; with_reducible rfl); simp only [Act.put, List.setIfInBounds_toArray, List.set_cons_zero, List.set_cons_succ])
                      refine wpGr_done ?_
                      go_wp2
                      go_meet
                      exact ⟨rfl, HQ⟩
                  case rest =>
                    obtain ⟨rfl, hb⟩ := hcut
                    replace hb := hb.out
                    generalize wc = u22 at *
                    replace HB := Lib.hid (HB.out.trans (hb.mono HB.out.size))
                    replace K3 := Lib.hid (K3.out.ext hb)
                    replace K4 := Lib.hid (K4.out.ext hb)
                    replace K7 := Lib.hid (K7.out.ext hb)
                    replace K8 := Lib.hid (K8.out.ext hb)
                    replace K10 := Lib.hid (K10.out.ext hb)
                    replace K11 := Lib.hid (K11.out.ext hb)
                    replace K12 := Lib.hid (K12.out.ext hb)
                    replace K13 := Lib.hid (K13.out.ext hb)
                    replace K14 := Lib.hid (K14.out.ext hb)
                    replace K15 := Lib.hid (K15.out.ext hb)
                    clear hb
                    as_aux_lemma =>
                    go_wp2_with fail
                    refine wp_region_gr [(0, true), (1, true), (3, true), (2, false), (4, false), (5, true), (6, true), (7, true), (8, true), (10, true), (9, false), (11, false), (12, true), (13, true), (14, true), (15, true), (16, true), (18, true), (17, false), (19, false), (20, true), (21, true), (22, true), (23, true), (25, true), (24, false), (26, false), (27, true), (28, true), (29, true), (30, false), (31, true), (32, true)] (by kernel_rfl) (by kernel_rfl) (by kernel_rfl) (by kernel_rfl) (fun _ _ _ _ _ h => h) ?_
                    have hb : Ext u22 u22.drew := Ext.drew _
                    replace HB := Lib.hid (HB.out.trans (hb.mono HB.out.size))
                    replace K3 := Lib.hid (K3.out.ext hb)
                    replace K4 := Lib.hid (K4.out.ext hb)
                    replace K7 := Lib.hid (K7.out.ext hb)
                    replace K8 := Lib.hid (K8.out.ext hb)
                    replace K10 := Lib.hid (K10.out.ext hb)
                    replace K11 := Lib.hid (K11.out.ext hb)
                    replace K12 := Lib.hid (K12.out.ext hb)
                    replace K13 := Lib.hid (K13.out.ext hb)
                    replace K14 := Lib.hid (K14.out.ext hb)
                    replace K15 := Lib.hid (K15.out.ext hb)
                    clear hb
                    generalize u22.drew = u23 at *
                    refine wpGr_read (o := ⟨_, _, _, _, _, _⟩) (v := .agg (sc f)) rfl (by rfl) (fun w' hw' => rd_load_sc TW (.tmp 3) rfl g3 f TW (by rfl) arr_TW (K3.out.ext hw')) ?_
                    simp only [Act.put, List.setIfInBounds_toArray, List.set_cons_zero, List.set_cons_succ]
                    refine wpGr_read (o := ⟨_, _, _, _, _, _⟩) (v := .agg (sc g)) rfl (by rfl) (fun w' hw' => rd_load_sc TW (.tmp 4) rfl g4 g TW (by rfl) arr_TW (K4.out.ext hw')) ?_
                    simp only [Act.put, List.setIfInBounds_toArray, List.set_cons_zero, List.set_cons_succ]
                    refine wpGr_read (o := ⟨_, _, _, _, _, _⟩) (v := .agg (bc FA)) rfl (by rfl) (fun w' hw' => rd_load_bc (.tmp 12) rfl g12 FA (by rfl) (K12.out.ext hw')) ?_
                    simp only [Act.put, List.setIfInBounds_toArray, List.set_cons_zero, List.set_cons_succ]
                    refine wpGr_call (o := ⟨_, _, _, _, _, _⟩) rfl (by rfl) (fun K hK => ?_)
                    go_simp
                    refine (CFA.out u23).mono ?_
                    rintro e u24 ⟨rfl, hb⟩
                    refine hK _ _ hb ?_
                    clear hK K
                    replace HB := Lib.hid (HB.out.trans (hb.mono HB.out.size))
                    replace K3 := Lib.hid (K3.out.ext hb)
                    replace K4 := Lib.hid (K4.out.ext hb)
                    replace K7 := Lib.hid (K7.out.ext hb)
                    replace K8 := Lib.hid (K8.out.ext hb)
                    replace K10 := Lib.hid (K10.out.ext hb)
                    replace K11 := Lib.hid (K11.out.ext hb)
                    replace K12 := Lib.hid (K12.out.ext hb)
                    replace K13 := Lib.hid (K13.out.ext hb)
                    replace K14 := Lib.hid (K14.out.ext hb)
                    replace K15 := Lib.hid (K15.out.ext hb)
                    clear hb
                    refine wpGr_call (o := ⟨_, _, _, _, _, _⟩) rfl (by rfl) (fun K hK => ?_)
                    go_simp
                    refine (CSA.out u24).mono ?_
                    rintro e u25 ⟨rfl, hb⟩
                    refine hK _ _ hb ?_
                    clear hK K
                    replace HB := Lib.hid (HB.out.trans (hb.mono HB.out.size))
                    replace K3 := Lib.hid (K3.out.ext hb)
                    replace K4 := Lib.hid (K4.out.ext hb)
                    replace K7 := Lib.hid (K7.out.ext hb)
                    replace K8 := Lib.hid (K8.out.ext hb)
                    replace K10 := Lib.hid (K10.out.ext hb)
                    replace K11 := Lib.hid (K11.out.ext hb)
                    replace K12 := Lib.hid (K12.out.ext hb)
                    replace K13 := Lib.hid (K13.out.ext hb)
                    replace K14 := Lib.hid (K14.out.ext hb)
                    replace K15 := Lib.hid (K15.out.ext hb)
                    clear hb
                    refine wpGr_read (o := ⟨_, _, _, _, _, _⟩) (v := .bool true) rfl (by rfl) (fun w' _ => rd_eql_sc (.tmp 137) (.tmp 139) TS rfl FA FA (by rfl) (by rfl) rfl) ?_
                    simp only [Act.put, List.setIfInBounds_toArray, List.set_cons_zero, List.set_cons_succ]
                    iterate 1 (refine wpGr_read (o := ⟨_, _, _, _, _, _⟩) (v := ?_) rfl (by rfl) ?_ ?_; rotate_left; (intro w' hw'; go_simp; with_reducible rfl); simp only [Act.put, List.setIfInBounds_toArray, List.set_cons_zero, List.set_cons_succ])
                    refine wpGr_read (o := ⟨_, _, _, _, _, _⟩) (v := .agg (sc f)) rfl (by rfl) (fun w' hw' => rd_load_sc TW (.tmp 3) rfl g3 f TW (by rfl) arr_TW (K3.out.ext hw')) ?_
                    simp only [Act.put, List.setIfInBounds_toArray, List.set_cons_zero, List.set_cons_succ]
                    refine wpGr_read (o := ⟨_, _, _, _, _, _⟩) (v := .agg (sc g)) rfl (by rfl) (fun w' hw' => rd_load_sc TW (.tmp 4) rfl g4 g TW (by rfl) arr_TW (K4.out.ext hw')) ?_
                    simp only [Act.put, List.setIfInBounds_toArray, List.set_cons_zero, List.set_cons_succ]
                    refine wpGr_read (o := ⟨_, _, _, _, _, _⟩) (v := .agg (bc FO)) rfl (by rfl) (fun w' hw' => rd_load_bc (.tmp 13) rfl g13 FO (by rfl) (K13.out.ext hw')) ?_
                    simp only [Act.put, List.setIfInBounds_toArray, List.set_cons_zero, List.set_cons_succ]
                    refine wpGr_call (o := ⟨_, _, _, _, _, _⟩) rfl (by rfl) (fun K hK => ?_)
                    go_simp
                    refine (CFO.out u25).mono ?_
                    rintro e u26 ⟨rfl, hb⟩
                    refine hK _ _ hb ?_
                    clear hK K
                    replace HB := Lib.hid (HB.out.trans (hb.mono HB.out.size))
                    replace K3 := Lib.hid (K3.out.ext hb)
                    replace K4 := Lib.hid (K4.out.ext hb)
                    replace K7 := Lib.hid (K7.out.ext hb)
                    replace K8 := Lib.hid (K8.out.ext hb)
                    replace K10 := Lib.hid (K10.out.ext hb)
                    replace K11 := Lib.hid (K11.out.ext hb)
                    replace K12 := Lib.hid (K12.out.ext hb)
                    replace K13 := Lib.hid (K13.out.ext hb)
                    replace K14 := Lib.hid (K14.out.ext hb)
                    replace K15 := Lib.hid (K15.out.ext hb)
                    clear hb
                    refine wpGr_call (o := ⟨_, _, _, _, _, _⟩) rfl (by rfl) (fun K hK => ?_)
                    go_simp
                    refine (CSR.out u26).mono ?_
                    rintro e u27 ⟨rfl, hb⟩
                    refine hK _ _ hb ?_
                    clear hK K
                    replace HB := Lib.hid (HB.out.trans (hb.mono HB.out.size))
                    replace K3 := Lib.hid (K3.out.ext hb)
                    replace K4 := Lib.hid (K4.out.ext hb)
                    replace K7 := Lib.hid (K7.out.ext hb)
                    replace K8 := Lib.hid (K8.out.ext hb)
                    replace K10 := Lib.hid (K10.out.ext hb)
                    replace K11 := Lib.hid (K11.out.ext hb)
                    replace K12 := Lib.hid (K12.out.ext hb)
                    replace K13 := Lib.hid (K13.out.ext hb)
                    replace K14 := Lib.hid (K14.out.ext hb)
                    replace K15 := Lib.hid (K15.out.ext hb)
                    clear hb
                    refine wpGr_read (o := ⟨_, _, _, _, _, _⟩) (v := .bool true) rfl (by rfl) (fun w' _ => rd_eql_sc (.tmp 144) (.tmp 146) TS rfl FO FO (by rfl) (by rfl) rfl) ?_
                    simp only [Act.put, List.setIfInBounds_toArray, List.set_cons_zero, List.set_cons_succ]
                    iterate 2 (refine wpGr_read (o := ⟨_, _, _, _, _, _⟩) (v := ?_) rfl (by rfl) ?_ ?_; rotate_left; (intro w' hw'; go_simp; with_reducible rfl); simp only [Act.put, List.setIfInBounds_toArray, List.set_cons_zero, List.set_cons_succ])
                    refine wpGr_read (o := ⟨_, _, _, _, _, _⟩) (v := .agg (sc f)) rfl (by rfl) (fun w' hw' => rd_load_sc TW (.tmp 3) rfl g3 f TW (by rfl) arr_TW (K3.out.ext hw')) ?_
                    simp only [Act.put, List.setIfInBounds_toArray, List.set_cons_zero, List.set_cons_succ]
                    refine wpGr_read (o := ⟨_, _, _, _, _, _⟩) (v := .agg (sc g)) rfl (by rfl) (fun w' hw' => rd_load_sc TW (.tmp 4) rfl g4 g TW (by rfl) arr_TW (K4.out.ext hw')) ?_
                    simp only [Act.put, List.setIfInBounds_toArray, List.set_cons_zero, List.set_cons_succ]
                    refine wpGr_read (o := ⟨_, _, _, _, _, _⟩) (v := .agg (bc FL)) rfl (by rfl) (fun w' hw' => rd_load_bc (.tmp 14) rfl g14 FL (by rfl) (K14.out.ext hw')) ?_
                    simp only [Act.put, List.setIfInBounds_toArray, List.set_cons_zero, List.set_cons_succ]
                    refine wpGr_call (o := ⟨_, _, _, _, _, _⟩) rfl (by rfl) (fun K hK => ?_)
                    go_simp
                    refine (CFL.out u27).mono ?_
                    rintro e u28 ⟨rfl, hb⟩
                    refine hK _ _ hb ?_
                    clear hK K
                    replace HB := Lib.hid (HB.out.trans (hb.mono HB.out.size))
                    replace K3 := Lib.hid (K3.out.ext hb)
                    replace K4 := Lib.hid (K4.out.ext hb)
                    replace K7 := Lib.hid (K7.out.ext hb)
                    replace K8 := Lib.hid (K8.out.ext hb)
                    replace K10 := Lib.hid (K10.out.ext hb)
                    replace K11 := Lib.hid (K11.out.ext hb)
                    replace K12 := Lib.hid (K12.out.ext hb)
                    replace K13 := Lib.hid (K13.out.ext hb)
                    replace K14 := Lib.hid (K14.out.ext hb)
                    replace K15 := Lib.hid (K15.out.ext hb)
                    clear hb
                    refine wpGr_call (o := ⟨_, _, _, _, _, _⟩) rfl (by rfl) (fun K hK => ?_)
                    go_simp
                    refine (CSL.out u28).mono ?_
                    rintro e u29 ⟨rfl, hb⟩
                    refine hK _ _ hb ?_
                    clear hK K
                    replace HB := Lib.hid (HB.out.trans (hb.mono HB.out.size))
                    replace K3 := Lib.hid (K3.out.ext hb)
                    replace K4 := Lib.hid (K4.out.ext hb)
                    replace K7 := Lib.hid (K7.out.ext hb)
                    replace K8 := Lib.hid (K8.out.ext hb)
                    replace K10 := Lib.hid (K10.out.ext hb)
                    replace K11 := Lib.hid (K11.out.ext hb)
                    replace K12 := Lib.hid (K12.out.ext hb)
                    replace K13 := Lib.hid (K13.out.ext hb)
                    replace K14 := Lib.hid (K14.out.ext hb)
                    replace K15 := Lib.hid (K15.out.ext hb)
                    clear hb
                    refine wpGr_read (o := ⟨_, _, _, _, _, _⟩) (v := .bool true) rfl (by rfl) (fun w' _ => rd_eql_sc (.tmp 152) (.tmp 154) TS rfl FL FL (by rfl) (by rfl) rfl) ?_
                    simp only [Act.put, List.setIfInBounds_toArray, List.set_cons_zero, List.set_cons_succ]
                    iterate 2 (refine wpGr_read (o := ⟨_, _, _, _, _, _⟩) (v := ?_) rfl (by rfl) ?_ ?_; rotate_left; (intro w' hw'; go_simp; with_reducible rfl); simp only [Act.put, List.setIfInBounds_toArray, List.set_cons_zero, List.set_cons_succ])
                    iterate 1 (refine wpGr_read (o := ⟨_, _, _, _, _, _⟩) (v := ?_) rfl (by rfl) ?_ ?_; rotate_left; (intro w' hw'; go_simp; with_reducible rfl); simp only [Act.put, List.setIfInBounds_toArray, List.set_cons_zero, List.set_cons_succ])
                    refine wpGr_read (o := ⟨_, _, _, _, _, _⟩) (v := .agg (bc FB)) rfl (by rfl) (fun w' hw' => rd_load_bc (.tmp 15) rfl g15 FB (by rfl) (K15.out.ext hw')) ?_
                    simp only [Act.put, List.setIfInBounds_toArray, List.set_cons_zero, List.set_cons_succ]
                    refine wpGr_call (o := ⟨_, _, _, _, _, _⟩) rfl (by rfl) (fun K hK => ?_)
                    go_simp
                    refine (CFB.out u29).mono ?_
                    rintro e u30 ⟨rfl, hb⟩
                    refine hK _ _ hb ?_
                    clear hK K
                    replace HB := Lib.hid (HB.out.trans (hb.mono HB.out.size))
                    replace K3 := Lib.hid (K3.out.ext hb)
                    replace K4 := Lib.hid (K4.out.ext hb)
                    replace K7 := Lib.hid (K7.out.ext hb)
                    replace K8 := Lib.hid (K8.out.ext hb)
                    replace K10 := Lib.hid (K10.out.ext hb)
                    replace K11 := Lib.hid (K11.out.ext hb)
                    replace K12 := Lib.hid (K12.out.ext hb)
                    replace K13 := Lib.hid (K13.out.ext hb)
                    replace K14 := Lib.hid (K14.out.ext hb)
                    replace K15 := Lib.hid (K15.out.ext hb)
                    clear hb
                    refine wpGr_call (o := ⟨_, _, _, _, _, _⟩) rfl (by rfl) (fun K hK => ?_)
                    go_simp
                    refine (CSB.out u30).mono ?_
                    rintro e u31 ⟨rfl, hb⟩
                    refine hK _ _ hb ?_
                    clear hK K
                    replace HB := Lib.hid (HB.out.trans (hb.mono HB.out.size))
                    replace K3 := Lib.hid (K3.out.ext hb)
                    replace K4 := Lib.hid (K4.out.ext hb)
                    replace K7 := Lib.hid (K7.out.ext hb)
                    replace K8 := Lib.hid (K8.out.ext hb)
                    replace K10 := Lib.hid (K10.out.ext hb)
                    replace K11 := Lib.hid (K11.out.ext hb)
                    replace K12 := Lib.hid (K12.out.ext hb)
                    replace K13 := Lib.hid (K13.out.ext hb)
                    replace K14 := Lib.hid (K14.out.ext hb)
                    replace K15 := Lib.hid (K15.out.ext hb)
                    clear hb
                    refine wpGr_read (o := ⟨_, _, _, _, _, _⟩) (v := .bool true) rfl (by rfl) (fun w' _ => rd_eql_sc (.tmp 159) (.tmp 161) TS rfl FB FB (by rfl) (by rfl) rfl) ?_
                    simp only [Act.put, List.setIfInBounds_toArray, List.set_cons_zero, List.set_cons_succ]
                    iterate 2 (refine wpGr_read (o := ⟨_, _, _, _, _, _⟩) (v := ?_) rfl (by rfl) ?_ ?_; rotate_left; (intro w' hw'; go_simp; with_reducible rfl); simp only [Act.put, List.setIfInBounds_toArray, List.set_cons_zero, List.set_cons_succ])
                    refine wpGr_call (o := ⟨_, _, _, _, _, _⟩) rfl (by rfl) (fun K hK => ?_)
                    go_simp
                    refine (zsure_any u31 (HGw.out.below HB.out) (HTw.out.below HB.out)).mono ?_
                    rintro e u32 ⟨rfl, hb⟩
                    refine hK _ _ hb ?_
                    clear hK K
                    replace HB := Lib.hid (HB.out.trans (hb.mono HB.out.size))
                    replace K3 := Lib.hid (K3.out.ext hb)
                    replace K4 := Lib.hid (K4.out.ext hb)
                    replace K7 := Lib.hid (K7.out.ext hb)
                    replace K8 := Lib.hid (K8.out.ext hb)
                    replace K10 := Lib.hid (K10.out.ext hb)
                    replace K11 := Lib.hid (K11.out.ext hb)
                    replace K12 := Lib.hid (K12.out.ext hb)
                    replace K13 := Lib.hid (K13.out.ext hb)
                    replace K14 := Lib.hid (K14.out.ext hb)
                    replace K15 := Lib.hid (K15.out.ext hb)
                    clear hb
                    iterate 2 (refine wpGr_read (o := ⟨_, _, _, _, _, _⟩) (v := ?_) rfl (by rfl) ?_ ?_; rotate_left; (intro w' hw'; go_simp; with_reducible rfl); simp only [Act.put, List.setIfInBounds_toArray, List.set_cons_zero, List.set_cons_succ])
                    refine wpGr_done ?_
                    go_wp2
                    go_ret
                    exact ⟨rfl, HB.out⟩
end Go.Proofs.YtkokcmjpobfkkaaDoor
