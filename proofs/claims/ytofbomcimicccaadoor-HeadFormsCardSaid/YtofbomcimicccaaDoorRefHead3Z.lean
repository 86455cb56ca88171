/-
  The document's Pick (mkrefp.py).
-/
import Derived.Test.YtofbomcimicccaaDoorRefHead2Z
import Derived.Test.YtofbomcimicccaaDoorHead4Z
namespace Go.Proofs.YtofbomcimicccaaDoor
open Go Go.RowKit

theorem hpick_two {a b : List Nat} (ha : hat (hdec a) 0 = true) (hb : hat (hdec b) 1 = true) : hpick a b = (if (hdec b).1.s < (hdec a).1.s then (hdec a).1 else (hdec b).1, 0) := by unfold hpick; rw [if_pos ha, if_pos hb]
theorem hpick_one {a b : List Nat} (ha : hat (hdec a) 0 = true) (hb : ¬ hat (hdec b) 1 = true) : hpick a b = ((hdec a).1, 0) := by unfold hpick; rw [if_pos ha, if_neg hb]
theorem hpick_other {a b : List Nat} (ha : ¬ hat (hdec a) 0 = true) (hb : hat (hdec b) 1 = true) : hpick a b = ((hdec b).1, 0) := by unfold hpick; rw [if_neg ha, if_pos hb]
theorem hpick_no {a b : List Nat} (ha : ¬ hat (hdec a) 0 = true) (hb : ¬ hat (hdec b) 1 = true) : hpick a b = (hd0, 16) := by unfold hpick; rw [if_neg ha, if_neg hb]
/-- What a page tells, of the page where it lies: not a head's, one that belongs elsewhere, one that belongs there. -/
theorem hat_way (x : Hd × Nat) (k : Nat) : (x.2 ≠ 0 ∧ ¬ hat x k = true) ∨ (x.2 = 0 ∧ x.1.s % 2 ≠ k ∧ ¬ hat x k = true) ∨ (x.2 = 0 ∧ x.1.s % 2 = k ∧ hat x k = true) := by
  by_cases h1 : x.2 = 0
  · by_cases h2 : x.1.s % 2 = k
    · exact .inr (.inr ⟨h1, h2, (hat_iff x k).2 ⟨h1, h2⟩⟩)
    · exact .inr (.inl ⟨h1, h2, fun h => h2 ((hat_iff x k).1 h).2⟩)
  · exact .inl ⟨h1, fun h => h1 ((hat_iff x k).1 h).1⟩
set_option maxRecDepth 100000 in
set_option maxHeartbeats 2000000 in
theorem refPick_core (a1 : Option Addr) (m1 c1 : Nat) (a2 : Option Addr) (m2 c2 : Nat) (la lb : List Nat) (w : World)
    (hD1 : ∀ w1, Below w.heap.size w w1 → Calls Tryd.prog 10 #[.slice a1 m1 c1] w1 fun e w' => e = .returned (.tuple #[.agg (hv (hdec la).1), .int .i64 ((hdec la).2 : Nat)]) ∧ Below w1.heap.size w1 w')
    (hD2 : ∀ w1, Below w.heap.size w w1 → Calls Tryd.prog 10 #[.slice a2 m2 c2] w1 fun e w' => e = .returned (.tuple #[.agg (hv (hdec lb).1), .int .i64 ((hdec lb).2 : Nat)]) ∧ Below w1.heap.size w1 w') :
    Calls Tryd.prog 12 #[.slice a1 m1 c1, .slice a2 m2 c2] w fun e w' => e = .returned (.tuple #[.agg (hv (hpick la lb).1), .int .i64 ((hpick la lb).2 : Nat)]) ∧ Below w.heap.size w w' := by
  have H1 := Lib.hid hD1
  have H2 := Lib.hid hD2
  have P1 := Lib.hid (@hpick_two la lb)
  have P2 := Lib.hid (@hpick_one la lb)
  have P3 := Lib.hid (@hpick_other la lb)
  have P4 := Lib.hid (@hpick_no la lb)
  obtain ⟨Z, hZ⟩ : ∃ Z, hpick la lb = Z := ⟨_, rfl⟩
  rw [hZ] at P1 P2 P3 P4 ⊢
  have wa := hat_way (hdec la) 0
  have wb := hat_way (hdec lb) 1
  obtain ⟨X, hX⟩ : ∃ X, (hdec la).1 = X := ⟨_, rfl⟩
  obtain ⟨E, hE⟩ : ∃ E, (hdec la).2 = E := ⟨_, rfl⟩
  obtain ⟨Y, hY⟩ : ∃ Y, (hdec lb).1 = Y := ⟨_, rfl⟩
  obtain ⟨F, hF⟩ : ∃ F, (hdec lb).2 = F := ⟨_, rfl⟩
  rw [hX, hE] at H1 wa
  rw [hY, hF] at H2 wb
  rw [hX] at P1 P2
  rw [hY] at P1 P3
  obtain ⟨A, hA⟩ : ∃ A : Prop, (hat (hdec la) 0 = true) = A := ⟨_, rfl⟩
  obtain ⟨B, hB⟩ : ∃ B : Prop, (hat (hdec lb) 1 = true) = B := ⟨_, rfl⟩
  rw [hA] at P1 P2 P3 P4 wa
  rw [hB] at P1 P2 P3 P4 wb
  clear hD1 hD2 hZ hX hE hY hF hA hB
  rcases wa with ⟨a0, a1⟩ | ⟨a0, a1, a2⟩ | ⟨a0, a1, a2⟩
  · have da : ((E : Int) != 0) = true := by simp; omega
    rcases wb with ⟨b0, b1⟩ | ⟨b0, b1, b2⟩ | ⟨b0, b1, b2⟩
    · have db : ((F : Int) != 0) = true := by simp; omega
      have HX := Lib.hid (P4.out a1 b1)
      clear P1 P2 P3 P4 a0 a1 b0 b1
      go_enter Tryd.func12, Tryd.ntmps12
      go_wp2_with (refine wpList_alloc_arr rfl RHT rfl arrz_RHT ?_; intro g4 w1 hg4 hk4 hb4)
      have HB := Lib.hid hb4
      have HK4 := Lib.hid hk4
      have Hg4 := Lib.hid hg4
      clear hg4 hk4 hb4
      refine (H1.out w1 HB.out).mono ?_
      rintro e w2 ⟨rfl, hb⟩
      replace HB := Lib.hid (HB.out.trans (hb.mono HB.out.size))
      replace HK4 := Lib.hid (HK4.out.ext hb)
      clear hb H1
      go_wp2_with (first
        | (refine wpList_alloc_arr rfl RHT rfl arrz_RHT ?_; intro g6 w3 hg6 hk6 hb6)
        | (refine wpList_store_agg rfl RHT (.tmp 6) (.tmp 13) rfl g6 (hv X) _ RHT (by rfl) (by rfl) agg_RHT hk6 (hv_size _) (hv_size _) (hv_one _) ?_; intro w4 hk6' ht6 hs6))
      have bb : Ext w2 w4 := hb6.trans (ht6.below hb6.size (fun i hi => by subst hi; exact hg6))
      replace HB := Lib.hid (HB.out.trans (Below.mono bb HB.out.size))
      replace HK4 := Lib.hid (HK4.out.ext bb)
      have HK6 := Lib.hid hk6'
      clear hg6 hk6 hb6 hk6' ht6 hs6 bb
      refine (H2.out w4 HB.out).mono ?_
      rintro e w5 ⟨rfl, hb⟩
      replace HB := Lib.hid (HB.out.trans (hb.mono HB.out.size))
      replace HK4 := Lib.hid (HK4.out.ext hb)
      replace HK6 := Lib.hid (HK6.out.ext hb)
      clear hb H2
      go_wp2_with (first
        | (refine wpList_alloc_arr rfl RHT rfl arrz_RHT ?_; intro g8 w6 hg8 hk8 hb8)
        | (refine wpList_store_agg rfl RHT (.tmp 8) (.tmp 18) rfl g8 (hv Y) _ RHT (by rfl) (by rfl) agg_RHT hk8 (hv_size _) (hv_size _) (hv_one _) ?_; intro w7 hk8' ht8 hs8; have bb : Ext w5 w7 := hb8.trans (ht8.below hb8.size (fun i hi => by subst hi; exact hg8)); have HB7 := Lib.hid (HB.out.trans (Below.mono bb HB.out.size)); have HJ4 := Lib.hid (HK4.out.ext bb); have HJ6 := Lib.hid (HK6.out.ext bb); have HJ8 := Lib.hid hk8'; have q6 := HJ6.out.h0; have q8 := HJ8.out.h0; clear hg8 hk8 hb8 hk8' ht8 hs8 bb HB HK4 HK6)
        | (refine wpList_build rfl RHT _ rfl _ (by rfl) (hv hd0) (build_rh0 _) ?_)
        | (refine wpList_store_agg rfl RHT (.tmp 4) (.tmp 58) rfl g4 (hv hd0) _ RHT (by rfl) (by rfl) agg_RHT HJ4.out (hv_size _) (hv_size _) (hv_one _) ?_; intro w9 hk9 ht9 hs9; clear q6 q8))
      refine bodyPost_ret (v := .tuple #[.agg (hv hd0), .int .i64 16]) ?_ rfl ?_
      · exact results_agg2 agg_RHT rfl _ _ g4 _ _ (by rfl) (by rfl) hk9 (hv_size _)
      · exact ⟨by rw [HX.out]; rfl, HB7.out.trans (ht9.below HB7.out.size (fun i hi => by subst hi; exact Hg4.out))⟩
    · subst b0
      have sa : (Y.s : Int).tmod 2 = 0 := by rw [Int.tmod_eq_emod_of_nonneg (by omega)]; omega
      have sb : (Y.s : Int) % 2 = 0 := by omega
      have HX := Lib.hid (P4.out a1 b2)
      clear P1 P2 P3 P4 a0 a1 b1 b2
      go_enter Tryd.func12, Tryd.ntmps12
      go_wp2_with (refine wpList_alloc_arr rfl RHT rfl arrz_RHT ?_; intro g4 w1 hg4 hk4 hb4)
      have HB := Lib.hid hb4
      have HK4 := Lib.hid hk4
      have Hg4 := Lib.hid hg4
      clear hg4 hk4 hb4
      refine (H1.out w1 HB.out).mono ?_
      rintro e w2 ⟨rfl, hb⟩
      replace HB := Lib.hid (HB.out.trans (hb.mono HB.out.size))
      replace HK4 := Lib.hid (HK4.out.ext hb)
      clear hb H1
      go_wp2_with (first
        | (refine wpList_alloc_arr rfl RHT rfl arrz_RHT ?_; intro g6 w3 hg6 hk6 hb6)
        | (refine wpList_store_agg rfl RHT (.tmp 6) (.tmp 13) rfl g6 (hv X) _ RHT (by rfl) (by rfl) agg_RHT hk6 (hv_size _) (hv_size _) (hv_one _) ?_; intro w4 hk6' ht6 hs6))
      have bb : Ext w2 w4 := hb6.trans (ht6.below hb6.size (fun i hi => by subst hi; exact hg6))
      replace HB := Lib.hid (HB.out.trans (Below.mono bb HB.out.size))
      replace HK4 := Lib.hid (HK4.out.ext bb)
      have HK6 := Lib.hid hk6'
      clear hg6 hk6 hb6 hk6' ht6 hs6 bb
      refine (H2.out w4 HB.out).mono ?_
      rintro e w5 ⟨rfl, hb⟩
      replace HB := Lib.hid (HB.out.trans (hb.mono HB.out.size))
      replace HK4 := Lib.hid (HK4.out.ext hb)
      replace HK6 := Lib.hid (HK6.out.ext hb)
      clear hb H2
      go_wp2_with (first
        | (refine wpList_alloc_arr rfl RHT rfl arrz_RHT ?_; intro g8 w6 hg8 hk8 hb8)
        | (refine wpList_store_agg rfl RHT (.tmp 8) (.tmp 18) rfl g8 (hv Y) _ RHT (by rfl) (by rfl) agg_RHT hk8 (hv_size _) (hv_size _) (hv_one _) ?_; intro w7 hk8' ht8 hs8; have bb : Ext w5 w7 := hb8.trans (ht8.below hb8.size (fun i hi => by subst hi; exact hg8)); have HB7 := Lib.hid (HB.out.trans (Below.mono bb HB.out.size)); have HJ4 := Lib.hid (HK4.out.ext bb); have HJ6 := Lib.hid (HK6.out.ext bb); have HJ8 := Lib.hid hk8'; have q6 := HJ6.out.h0; have q8 := HJ8.out.h0; clear hg8 hk8 hb8 hk8' ht8 hs8 bb HB HK4 HK6)
        | (refine wpList_build rfl RHT _ rfl _ (by rfl) (hv hd0) (build_rh0 _) ?_)
        | (refine wpList_store_agg rfl RHT (.tmp 4) (.tmp 58) rfl g4 (hv hd0) _ RHT (by rfl) (by rfl) agg_RHT HJ4.out (hv_size _) (hv_size _) (hv_one _) ?_; intro w9 hk9 ht9 hs9; clear q6 q8))
      refine bodyPost_ret (v := .tuple #[.agg (hv hd0), .int .i64 16]) ?_ rfl ?_
      · exact results_agg2 agg_RHT rfl _ _ g4 _ _ (by rfl) (by rfl) hk9 (hv_size _)
      · exact ⟨by rw [HX.out]; rfl, HB7.out.trans (ht9.below HB7.out.size (fun i hi => by subst hi; exact Hg4.out))⟩
    · subst b0
      have sa : (Y.s : Int).tmod 2 = 1 := by rw [Int.tmod_eq_emod_of_nonneg (by omega)]; omega
      have sb : (Y.s : Int) % 2 = 1 := by omega
      have HX := Lib.hid (P3.out a1 b2)
      clear P1 P2 P3 P4 a0 a1 b1 b2
      go_enter Tryd.func12, Tryd.ntmps12
      go_wp2_with (refine wpList_alloc_arr rfl RHT rfl arrz_RHT ?_; intro g4 w1 hg4 hk4 hb4)
      have HB := Lib.hid hb4
      have HK4 := Lib.hid hk4
      have Hg4 := Lib.hid hg4
      clear hg4 hk4 hb4
      refine (H1.out w1 HB.out).mono ?_
      rintro e w2 ⟨rfl, hb⟩
      replace HB := Lib.hid (HB.out.trans (hb.mono HB.out.size))
      replace HK4 := Lib.hid (HK4.out.ext hb)
      clear hb H1
      go_wp2_with (first
        | (refine wpList_alloc_arr rfl RHT rfl arrz_RHT ?_; intro g6 w3 hg6 hk6 hb6)
        | (refine wpList_store_agg rfl RHT (.tmp 6) (.tmp 13) rfl g6 (hv X) _ RHT (by rfl) (by rfl) agg_RHT hk6 (hv_size _) (hv_size _) (hv_one _) ?_; intro w4 hk6' ht6 hs6))
      have bb : Ext w2 w4 := hb6.trans (ht6.below hb6.size (fun i hi => by subst hi; exact hg6))
      replace HB := Lib.hid (HB.out.trans (Below.mono bb HB.out.size))
      replace HK4 := Lib.hid (HK4.out.ext bb)
      have HK6 := Lib.hid hk6'
      clear hg6 hk6 hb6 hk6' ht6 hs6 bb
      refine (H2.out w4 HB.out).mono ?_
      rintro e w5 ⟨rfl, hb⟩
      replace HB := Lib.hid (HB.out.trans (hb.mono HB.out.size))
      replace HK4 := Lib.hid (HK4.out.ext hb)
      replace HK6 := Lib.hid (HK6.out.ext hb)
      clear hb H2
      go_wp2_with (first
        | (refine wpList_alloc_arr rfl RHT rfl arrz_RHT ?_; intro g8 w6 hg8 hk8 hb8)
        | (refine wpList_store_agg rfl RHT (.tmp 8) (.tmp 18) rfl g8 (hv Y) _ RHT (by rfl) (by rfl) agg_RHT hk8 (hv_size _) (hv_size _) (hv_one _) ?_; intro w7 hk8' ht8 hs8; have bb : Ext w5 w7 := hb8.trans (ht8.below hb8.size (fun i hi => by subst hi; exact hg8)); have HB7 := Lib.hid (HB.out.trans (Below.mono bb HB.out.size)); have HJ4 := Lib.hid (HK4.out.ext bb); have HJ6 := Lib.hid (HK6.out.ext bb); have HJ8 := Lib.hid hk8'; have q6 := HJ6.out.h0; have q8 := HJ8.out.h0; clear hg8 hk8 hb8 hk8' ht8 hs8 bb HB HK4 HK6)
        | (refine wpList_load_agg rfl RHT (.tmp 8) rfl g8 0 (hv Y) (by rfl) agg_RHT HJ8.out.at (hv_size _) ?_)
        | (refine wpList_store_agg rfl RHT (.tmp 4) (.tmp 57) rfl g4 (hv Y) _ RHT (by rfl) (by rfl) agg_RHT HJ4.out (hv_size _) (hv_size _) (hv_one _) ?_; intro w9 hk9 ht9 hs9; clear q6 q8))
      refine bodyPost_ret (v := .tuple #[.agg (hv Y), .int .i64 0]) ?_ rfl ?_
      · exact results_agg2 agg_RHT rfl _ _ g4 _ _ (by rfl) (by rfl) hk9 (hv_size _)
      · exact ⟨by rw [HX.out]; rfl, HB7.out.trans (ht9.below HB7.out.size (fun i hi => by subst hi; exact Hg4.out))⟩
  · subst a0
    have ta : (X.s : Int).tmod 2 = 1 := by rw [Int.tmod_eq_emod_of_nonneg (by omega)]; omega
    have tb : (X.s : Int) % 2 = 1 := by omega
    rcases wb with ⟨b0, b1⟩ | ⟨b0, b1, b2⟩ | ⟨b0, b1, b2⟩
    · have db : ((F : Int) != 0) = true := by simp; omega
      have HX := Lib.hid (P4.out a2 b1)
      clear P1 P2 P3 P4 a1 a2 b0 b1
      go_enter Tryd.func12, Tryd.ntmps12
      go_wp2_with (refine wpList_alloc_arr rfl RHT rfl arrz_RHT ?_; intro g4 w1 hg4 hk4 hb4)
      have HB := Lib.hid hb4
      have HK4 := Lib.hid hk4
      have Hg4 := Lib.hid hg4
      clear hg4 hk4 hb4
      refine (H1.out w1 HB.out).mono ?_
      rintro e w2 ⟨rfl, hb⟩
      replace HB := Lib.hid (HB.out.trans (hb.mono HB.out.size))
      replace HK4 := Lib.hid (HK4.out.ext hb)
      clear hb H1
      go_wp2_with (first
        | (refine wpList_alloc_arr rfl RHT rfl arrz_RHT ?_; intro g6 w3 hg6 hk6 hb6)
        | (refine wpList_store_agg rfl RHT (.tmp 6) (.tmp 13) rfl g6 (hv X) _ RHT (by rfl) (by rfl) agg_RHT hk6 (hv_size _) (hv_size _) (hv_one _) ?_; intro w4 hk6' ht6 hs6))
      have bb : Ext w2 w4 := hb6.trans (ht6.below hb6.size (fun i hi => by subst hi; exact hg6))
      replace HB := Lib.hid (HB.out.trans (Below.mono bb HB.out.size))
      replace HK4 := Lib.hid (HK4.out.ext bb)
      have HK6 := Lib.hid hk6'
      clear hg6 hk6 hb6 hk6' ht6 hs6 bb
      refine (H2.out w4 HB.out).mono ?_
      rintro e w5 ⟨rfl, hb⟩
      replace HB := Lib.hid (HB.out.trans (hb.mono HB.out.size))
      replace HK4 := Lib.hid (HK4.out.ext hb)
      replace HK6 := Lib.hid (HK6.out.ext hb)
      clear hb H2
      go_wp2_with (first
        | (refine wpList_alloc_arr rfl RHT rfl arrz_RHT ?_; intro g8 w6 hg8 hk8 hb8)
        | (refine wpList_store_agg rfl RHT (.tmp 8) (.tmp 18) rfl g8 (hv Y) _ RHT (by rfl) (by rfl) agg_RHT hk8 (hv_size _) (hv_size _) (hv_one _) ?_; intro w7 hk8' ht8 hs8; have bb : Ext w5 w7 := hb8.trans (ht8.below hb8.size (fun i hi => by subst hi; exact hg8)); have HB7 := Lib.hid (HB.out.trans (Below.mono bb HB.out.size)); have HJ4 := Lib.hid (HK4.out.ext bb); have HJ6 := Lib.hid (HK6.out.ext bb); have HJ8 := Lib.hid hk8'; have q6 := HJ6.out.h0; have q8 := HJ8.out.h0; clear hg8 hk8 hb8 hk8' ht8 hs8 bb HB HK4 HK6)
        | (refine wpList_build rfl RHT _ rfl _ (by rfl) (hv hd0) (build_rh0 _) ?_)
        | (refine wpList_store_agg rfl RHT (.tmp 4) (.tmp 58) rfl g4 (hv hd0) _ RHT (by rfl) (by rfl) agg_RHT HJ4.out (hv_size _) (hv_size _) (hv_one _) ?_; intro w9 hk9 ht9 hs9; clear q6 q8))
      refine bodyPost_ret (v := .tuple #[.agg (hv hd0), .int .i64 16]) ?_ rfl ?_
      · exact results_agg2 agg_RHT rfl _ _ g4 _ _ (by rfl) (by rfl) hk9 (hv_size _)
      · exact ⟨by rw [HX.out]; rfl, HB7.out.trans (ht9.below HB7.out.size (fun i hi => by subst hi; exact Hg4.out))⟩
    · subst b0
      have sa : (Y.s : Int).tmod 2 = 0 := by rw [Int.tmod_eq_emod_of_nonneg (by omega)]; omega
      have sb : (Y.s : Int) % 2 = 0 := by omega
      have HX := Lib.hid (P4.out a2 b2)
      clear P1 P2 P3 P4 a1 a2 b1 b2
      go_enter Tryd.func12, Tryd.ntmps12
      go_wp2_with (refine wpList_alloc_arr rfl RHT rfl arrz_RHT ?_; intro g4 w1 hg4 hk4 hb4)
      have HB := Lib.hid hb4
      have HK4 := Lib.hid hk4
      have Hg4 := Lib.hid hg4
      clear hg4 hk4 hb4
      refine (H1.out w1 HB.out).mono ?_
      rintro e w2 ⟨rfl, hb⟩
      replace HB := Lib.hid (HB.out.trans (hb.mono HB.out.size))
      replace HK4 := Lib.hid (HK4.out.ext hb)
      clear hb H1
      go_wp2_with (first
        | (refine wpList_alloc_arr rfl RHT rfl arrz_RHT ?_; intro g6 w3 hg6 hk6 hb6)
        | (refine wpList_store_agg rfl RHT (.tmp 6) (.tmp 13) rfl g6 (hv X) _ RHT (by rfl) (by rfl) agg_RHT hk6 (hv_size _) (hv_size _) (hv_one _) ?_; intro w4 hk6' ht6 hs6))
      have bb : Ext w2 w4 := hb6.trans (ht6.below hb6.size (fun i hi => by subst hi; exact hg6))
      replace HB := Lib.hid (HB.out.trans (Below.mono bb HB.out.size))
      replace HK4 := Lib.hid (HK4.out.ext bb)
      have HK6 := Lib.hid hk6'
      clear hg6 hk6 hb6 hk6' ht6 hs6 bb
      refine (H2.out w4 HB.out).mono ?_
      rintro e w5 ⟨rfl, hb⟩
      replace HB := Lib.hid (HB.out.trans (hb.mono HB.out.size))
      replace HK4 := Lib.hid (HK4.out.ext hb)
      replace HK6 := Lib.hid (HK6.out.ext hb)
      clear hb H2
      go_wp2_with (first
        | (refine wpList_alloc_arr rfl RHT rfl arrz_RHT ?_; intro g8 w6 hg8 hk8 hb8)
        | (refine wpList_store_agg rfl RHT (.tmp 8) (.tmp 18) rfl g8 (hv Y) _ RHT (by rfl) (by rfl) agg_RHT hk8 (hv_size _) (hv_size _) (hv_one _) ?_; intro w7 hk8' ht8 hs8; have bb : Ext w5 w7 := hb8.trans (ht8.below hb8.size (fun i hi => by subst hi; exact hg8)); have HB7 := Lib.hid (HB.out.trans (Below.mono bb HB.out.size)); have HJ4 := Lib.hid (HK4.out.ext bb); have HJ6 := Lib.hid (HK6.out.ext bb); have HJ8 := Lib.hid hk8'; have q6 := HJ6.out.h0; have q8 := HJ8.out.h0; clear hg8 hk8 hb8 hk8' ht8 hs8 bb HB HK4 HK6)
        | (refine wpList_build rfl RHT _ rfl _ (by rfl) (hv hd0) (build_rh0 _) ?_)
        | (refine wpList_store_agg rfl RHT (.tmp 4) (.tmp 58) rfl g4 (hv hd0) _ RHT (by rfl) (by rfl) agg_RHT HJ4.out (hv_size _) (hv_size _) (hv_one _) ?_; intro w9 hk9 ht9 hs9; clear q6 q8))
      refine bodyPost_ret (v := .tuple #[.agg (hv hd0), .int .i64 16]) ?_ rfl ?_
      · exact results_agg2 agg_RHT rfl _ _ g4 _ _ (by rfl) (by rfl) hk9 (hv_size _)
      · exact ⟨by rw [HX.out]; rfl, HB7.out.trans (ht9.below HB7.out.size (fun i hi => by subst hi; exact Hg4.out))⟩
    · subst b0
      have sa : (Y.s : Int).tmod 2 = 1 := by rw [Int.tmod_eq_emod_of_nonneg (by omega)]; omega
      have sb : (Y.s : Int) % 2 = 1 := by omega
      have HX := Lib.hid (P3.out a2 b2)
      clear P1 P2 P3 P4 a1 a2 b1 b2
      go_enter Tryd.func12, Tryd.ntmps12
      go_wp2_with (refine wpList_alloc_arr rfl RHT rfl arrz_RHT ?_; intro g4 w1 hg4 hk4 hb4)
      have HB := Lib.hid hb4
      have HK4 := Lib.hid hk4
      have Hg4 := Lib.hid hg4
      clear hg4 hk4 hb4
      refine (H1.out w1 HB.out).mono ?_
      rintro e w2 ⟨rfl, hb⟩
      replace HB := Lib.hid (HB.out.trans (hb.mono HB.out.size))
      replace HK4 := Lib.hid (HK4.out.ext hb)
      clear hb H1
      go_wp2_with (first
        | (refine wpList_alloc_arr rfl RHT rfl arrz_RHT ?_; intro g6 w3 hg6 hk6 hb6)
        | (refine wpList_store_agg rfl RHT (.tmp 6) (.tmp 13) rfl g6 (hv X) _ RHT (by rfl) (by rfl) agg_RHT hk6 (hv_size _) (hv_size _) (hv_one _) ?_; intro w4 hk6' ht6 hs6))
      have bb : Ext w2 w4 := hb6.trans (ht6.below hb6.size (fun i hi => by subst hi; exact hg6))
      replace HB := Lib.hid (HB.out.trans (Below.mono bb HB.out.size))
      replace HK4 := Lib.hid (HK4.out.ext bb)
      have HK6 := Lib.hid hk6'
      clear hg6 hk6 hb6 hk6' ht6 hs6 bb
      refine (H2.out w4 HB.out).mono ?_
      rintro e w5 ⟨rfl, hb⟩
      replace HB := Lib.hid (HB.out.trans (hb.mono HB.out.size))
      replace HK4 := Lib.hid (HK4.out.ext hb)
      replace HK6 := Lib.hid (HK6.out.ext hb)
      clear hb H2
      go_wp2_with (first
        | (refine wpList_alloc_arr rfl RHT rfl arrz_RHT ?_; intro g8 w6 hg8 hk8 hb8)
        | (refine wpList_store_agg rfl RHT (.tmp 8) (.tmp 18) rfl g8 (hv Y) _ RHT (by rfl) (by rfl) agg_RHT hk8 (hv_size _) (hv_size _) (hv_one _) ?_; intro w7 hk8' ht8 hs8; have bb : Ext w5 w7 := hb8.trans (ht8.below hb8.size (fun i hi => by subst hi; exact hg8)); have HB7 := Lib.hid (HB.out.trans (Below.mono bb HB.out.size)); have HJ4 := Lib.hid (HK4.out.ext bb); have HJ6 := Lib.hid (HK6.out.ext bb); have HJ8 := Lib.hid hk8'; have q6 := HJ6.out.h0; have q8 := HJ8.out.h0; clear hg8 hk8 hb8 hk8' ht8 hs8 bb HB HK4 HK6)
        | (refine wpList_load_agg rfl RHT (.tmp 8) rfl g8 0 (hv Y) (by rfl) agg_RHT HJ8.out.at (hv_size _) ?_)
        | (refine wpList_store_agg rfl RHT (.tmp 4) (.tmp 57) rfl g4 (hv Y) _ RHT (by rfl) (by rfl) agg_RHT HJ4.out (hv_size _) (hv_size _) (hv_one _) ?_; intro w9 hk9 ht9 hs9; clear q6 q8))
      refine bodyPost_ret (v := .tuple #[.agg (hv Y), .int .i64 0]) ?_ rfl ?_
      · exact results_agg2 agg_RHT rfl _ _ g4 _ _ (by rfl) (by rfl) hk9 (hv_size _)
      · exact ⟨by rw [HX.out]; rfl, HB7.out.trans (ht9.below HB7.out.size (fun i hi => by subst hi; exact Hg4.out))⟩
  · subst a0
    have ta : (X.s : Int).tmod 2 = 0 := by rw [Int.tmod_eq_emod_of_nonneg (by omega)]; omega
    have tb : (X.s : Int) % 2 = 0 := by omega
    rcases wb with ⟨b0, b1⟩ | ⟨b0, b1, b2⟩ | ⟨b0, b1, b2⟩
    · have db : ((F : Int) != 0) = true := by simp; omega
      have HX := Lib.hid (P2.out a2 b1)
      clear P1 P2 P3 P4 a1 a2 b0 b1
      go_enter Tryd.func12, Tryd.ntmps12
      go_wp2_with (refine wpList_alloc_arr rfl RHT rfl arrz_RHT ?_; intro g4 w1 hg4 hk4 hb4)
      have HB := Lib.hid hb4
      have HK4 := Lib.hid hk4
      have Hg4 := Lib.hid hg4
      clear hg4 hk4 hb4
      refine (H1.out w1 HB.out).mono ?_
      rintro e w2 ⟨rfl, hb⟩
      replace HB := Lib.hid (HB.out.trans (hb.mono HB.out.size))
      replace HK4 := Lib.hid (HK4.out.ext hb)
      clear hb H1
      go_wp2_with (first
        | (refine wpList_alloc_arr rfl RHT rfl arrz_RHT ?_; intro g6 w3 hg6 hk6 hb6)
        | (refine wpList_store_agg rfl RHT (.tmp 6) (.tmp 13) rfl g6 (hv X) _ RHT (by rfl) (by rfl) agg_RHT hk6 (hv_size _) (hv_size _) (hv_one _) ?_; intro w4 hk6' ht6 hs6))
      have bb : Ext w2 w4 := hb6.trans (ht6.below hb6.size (fun i hi => by subst hi; exact hg6))
      replace HB := Lib.hid (HB.out.trans (Below.mono bb HB.out.size))
      replace HK4 := Lib.hid (HK4.out.ext bb)
      have HK6 := Lib.hid hk6'
      clear hg6 hk6 hb6 hk6' ht6 hs6 bb
      refine (H2.out w4 HB.out).mono ?_
      rintro e w5 ⟨rfl, hb⟩
      replace HB := Lib.hid (HB.out.trans (hb.mono HB.out.size))
      replace HK4 := Lib.hid (HK4.out.ext hb)
      replace HK6 := Lib.hid (HK6.out.ext hb)
      clear hb H2
      go_wp2_with (first
        | (refine wpList_alloc_arr rfl RHT rfl arrz_RHT ?_; intro g8 w6 hg8 hk8 hb8)
        | (refine wpList_store_agg rfl RHT (.tmp 8) (.tmp 18) rfl g8 (hv Y) _ RHT (by rfl) (by rfl) agg_RHT hk8 (hv_size _) (hv_size _) (hv_one _) ?_; intro w7 hk8' ht8 hs8; have bb : Ext w5 w7 := hb8.trans (ht8.below hb8.size (fun i hi => by subst hi; exact hg8)); have HB7 := Lib.hid (HB.out.trans (Below.mono bb HB.out.size)); have HJ4 := Lib.hid (HK4.out.ext bb); have HJ6 := Lib.hid (HK6.out.ext bb); have HJ8 := Lib.hid hk8'; have q6 := HJ6.out.h0; have q8 := HJ8.out.h0; clear hg8 hk8 hb8 hk8' ht8 hs8 bb HB HK4 HK6)
        | (refine wpList_load_agg rfl RHT (.tmp 6) rfl g6 0 (hv X) (by rfl) agg_RHT HJ6.out.at (hv_size _) ?_)
        | (refine wpList_store_agg rfl RHT (.tmp 4) (.tmp 53) rfl g4 (hv X) _ RHT (by rfl) (by rfl) agg_RHT HJ4.out (hv_size _) (hv_size _) (hv_one _) ?_; intro w9 hk9 ht9 hs9; clear q6 q8))
      refine bodyPost_ret (v := .tuple #[.agg (hv X), .int .i64 0]) ?_ rfl ?_
      · exact results_agg2 agg_RHT rfl _ _ g4 _ _ (by rfl) (by rfl) hk9 (hv_size _)
      · exact ⟨by rw [HX.out]; rfl, HB7.out.trans (ht9.below HB7.out.size (fun i hi => by subst hi; exact Hg4.out))⟩
    · subst b0
      have sa : (Y.s : Int).tmod 2 = 0 := by rw [Int.tmod_eq_emod_of_nonneg (by omega)]; omega
      have sb : (Y.s : Int) % 2 = 0 := by omega
      have HX := Lib.hid (P2.out a2 b2)
      clear P1 P2 P3 P4 a1 a2 b1 b2
      go_enter Tryd.func12, Tryd.ntmps12
      go_wp2_with (refine wpList_alloc_arr rfl RHT rfl arrz_RHT ?_; intro g4 w1 hg4 hk4 hb4)
      have HB := Lib.hid hb4
      have HK4 := Lib.hid hk4
      have Hg4 := Lib.hid hg4
      clear hg4 hk4 hb4
      refine (H1.out w1 HB.out).mono ?_
      rintro e w2 ⟨rfl, hb⟩
      replace HB := Lib.hid (HB.out.trans (hb.mono HB.out.size))
      replace HK4 := Lib.hid (HK4.out.ext hb)
      clear hb H1
      go_wp2_with (first
        | (refine wpList_alloc_arr rfl RHT rfl arrz_RHT ?_; intro g6 w3 hg6 hk6 hb6)
        | (refine wpList_store_agg rfl RHT (.tmp 6) (.tmp 13) rfl g6 (hv X) _ RHT (by rfl) (by rfl) agg_RHT hk6 (hv_size _) (hv_size _) (hv_one _) ?_; intro w4 hk6' ht6 hs6))
      have bb : Ext w2 w4 := hb6.trans (ht6.below hb6.size (fun i hi => by subst hi; exact hg6))
      replace HB := Lib.hid (HB.out.trans (Below.mono bb HB.out.size))
      replace HK4 := Lib.hid (HK4.out.ext bb)
      have HK6 := Lib.hid hk6'
      clear hg6 hk6 hb6 hk6' ht6 hs6 bb
      refine (H2.out w4 HB.out).mono ?_
      rintro e w5 ⟨rfl, hb⟩
      replace HB := Lib.hid (HB.out.trans (hb.mono HB.out.size))
      replace HK4 := Lib.hid (HK4.out.ext hb)
      replace HK6 := Lib.hid (HK6.out.ext hb)
      clear hb H2
      go_wp2_with (first
        | (refine wpList_alloc_arr rfl RHT rfl arrz_RHT ?_; intro g8 w6 hg8 hk8 hb8)
        | (refine wpList_store_agg rfl RHT (.tmp 8) (.tmp 18) rfl g8 (hv Y) _ RHT (by rfl) (by rfl) agg_RHT hk8 (hv_size _) (hv_size _) (hv_one _) ?_; intro w7 hk8' ht8 hs8; have bb : Ext w5 w7 := hb8.trans (ht8.below hb8.size (fun i hi => by subst hi; exact hg8)); have HB7 := Lib.hid (HB.out.trans (Below.mono bb HB.out.size)); have HJ4 := Lib.hid (HK4.out.ext bb); have HJ6 := Lib.hid (HK6.out.ext bb); have HJ8 := Lib.hid hk8'; have q6 := HJ6.out.h0; have q8 := HJ8.out.h0; clear hg8 hk8 hb8 hk8' ht8 hs8 bb HB HK4 HK6)
        | (refine wpList_load_agg rfl RHT (.tmp 6) rfl g6 0 (hv X) (by rfl) agg_RHT HJ6.out.at (hv_size _) ?_)
        | (refine wpList_store_agg rfl RHT (.tmp 4) (.tmp 53) rfl g4 (hv X) _ RHT (by rfl) (by rfl) agg_RHT HJ4.out (hv_size _) (hv_size _) (hv_one _) ?_; intro w9 hk9 ht9 hs9; clear q6 q8))
      refine bodyPost_ret (v := .tuple #[.agg (hv X), .int .i64 0]) ?_ rfl ?_
      · exact results_agg2 agg_RHT rfl _ _ g4 _ _ (by rfl) (by rfl) hk9 (hv_size _)
      · exact ⟨by rw [HX.out]; rfl, HB7.out.trans (ht9.below HB7.out.size (fun i hi => by subst hi; exact Hg4.out))⟩
    · subst b0
      have sa : (Y.s : Int).tmod 2 = 1 := by rw [Int.tmod_eq_emod_of_nonneg (by omega)]; omega
      have sb : (Y.s : Int) % 2 = 1 := by omega
      by_cases hlt : Y.s < X.s
      · have dl : decide ((Y.s : Int) < (X.s : Int)) = true := decide_eq_true (by omega)
        have dm : decide (Y.s < X.s) = true := decide_eq_true hlt
        have HX := Lib.hid (P1.out a2 b2)
        rw [if_pos hlt] at HX
        clear P1 P2 P3 P4 a1 a2 b1 b2 hlt
        go_enter Tryd.func12, Tryd.ntmps12
        go_wp2_with (refine wpList_alloc_arr rfl RHT rfl arrz_RHT ?_; intro g4 w1 hg4 hk4 hb4)
        have HB := Lib.hid hb4
        have HK4 := Lib.hid hk4
        have Hg4 := Lib.hid hg4
        clear hg4 hk4 hb4
        refine (H1.out w1 HB.out).mono ?_
        rintro e w2 ⟨rfl, hb⟩
        replace HB := Lib.hid (HB.out.trans (hb.mono HB.out.size))
        replace HK4 := Lib.hid (HK4.out.ext hb)
        clear hb H1
        go_wp2_with (first
          | (refine wpList_alloc_arr rfl RHT rfl arrz_RHT ?_; intro g6 w3 hg6 hk6 hb6)
          | (refine wpList_store_agg rfl RHT (.tmp 6) (.tmp 13) rfl g6 (hv X) _ RHT (by rfl) (by rfl) agg_RHT hk6 (hv_size _) (hv_size _) (hv_one _) ?_; intro w4 hk6' ht6 hs6))
        have bb : Ext w2 w4 := hb6.trans (ht6.below hb6.size (fun i hi => by subst hi; exact hg6))
        replace HB := Lib.hid (HB.out.trans (Below.mono bb HB.out.size))
        replace HK4 := Lib.hid (HK4.out.ext bb)
        have HK6 := Lib.hid hk6'
        clear hg6 hk6 hb6 hk6' ht6 hs6 bb
        refine (H2.out w4 HB.out).mono ?_
        rintro e w5 ⟨rfl, hb⟩
        replace HB := Lib.hid (HB.out.trans (hb.mono HB.out.size))
        replace HK4 := Lib.hid (HK4.out.ext hb)
        replace HK6 := Lib.hid (HK6.out.ext hb)
        clear hb H2
        go_wp2_with (first
          | (refine wpList_alloc_arr rfl RHT rfl arrz_RHT ?_; intro g8 w6 hg8 hk8 hb8)
          | (refine wpList_store_agg rfl RHT (.tmp 8) (.tmp 18) rfl g8 (hv Y) _ RHT (by rfl) (by rfl) agg_RHT hk8 (hv_size _) (hv_size _) (hv_one _) ?_; intro w7 hk8' ht8 hs8; have bb : Ext w5 w7 := hb8.trans (ht8.below hb8.size (fun i hi => by subst hi; exact hg8)); have HB7 := Lib.hid (HB.out.trans (Below.mono bb HB.out.size)); have HJ4 := Lib.hid (HK4.out.ext bb); have HJ6 := Lib.hid (HK6.out.ext bb); have HJ8 := Lib.hid hk8'; have q6 := HJ6.out.h0; have q8 := HJ8.out.h0; clear hg8 hk8 hb8 hk8' ht8 hs8 bb HB HK4 HK6)
          | (refine wpList_load_agg rfl RHT (.tmp 6) rfl g6 0 (hv X) (by rfl) agg_RHT HJ6.out.at (hv_size _) ?_)
          | (refine wpList_store_agg rfl RHT (.tmp 4) (.tmp 48) rfl g4 (hv X) _ RHT (by rfl) (by rfl) agg_RHT HJ4.out (hv_size _) (hv_size _) (hv_one _) ?_; intro w9 hk9 ht9 hs9; clear q6 q8))
        refine bodyPost_ret (v := .tuple #[.agg (hv X), .int .i64 0]) ?_ rfl ?_
        · exact results_agg2 agg_RHT rfl _ _ g4 _ _ (by rfl) (by rfl) hk9 (hv_size _)
        · exact ⟨by rw [HX.out]; rfl, HB7.out.trans (ht9.below HB7.out.size (fun i hi => by subst hi; exact Hg4.out))⟩
      · have dl : decide ((Y.s : Int) < (X.s : Int)) = false := decide_eq_false (by omega)
        have dm : decide (Y.s < X.s) = false := decide_eq_false hlt
        have HX := Lib.hid (P1.out a2 b2)
        rw [if_neg hlt] at HX
        clear P1 P2 P3 P4 a1 a2 b1 b2 hlt
        go_enter Tryd.func12, Tryd.ntmps12
        go_wp2_with (refine wpList_alloc_arr rfl RHT rfl arrz_RHT ?_; intro g4 w1 hg4 hk4 hb4)
        have HB := Lib.hid hb4
        have HK4 := Lib.hid hk4
        have Hg4 := Lib.hid hg4
        clear hg4 hk4 hb4
        refine (H1.out w1 HB.out).mono ?_
        rintro e w2 ⟨rfl, hb⟩
        replace HB := Lib.hid (HB.out.trans (hb.mono HB.out.size))
        replace HK4 := Lib.hid (HK4.out.ext hb)
        clear hb H1
        go_wp2_with (first
          | (refine wpList_alloc_arr rfl RHT rfl arrz_RHT ?_; intro g6 w3 hg6 hk6 hb6)
          | (refine wpList_store_agg rfl RHT (.tmp 6) (.tmp 13) rfl g6 (hv X) _ RHT (by rfl) (by rfl) agg_RHT hk6 (hv_size _) (hv_size _) (hv_one _) ?_; intro w4 hk6' ht6 hs6))
        have bb : Ext w2 w4 := hb6.trans (ht6.below hb6.size (fun i hi => by subst hi; exact hg6))
        replace HB := Lib.hid (HB.out.trans (Below.mono bb HB.out.size))
        replace HK4 := Lib.hid (HK4.out.ext bb)
        have HK6 := Lib.hid hk6'
        clear hg6 hk6 hb6 hk6' ht6 hs6 bb
        refine (H2.out w4 HB.out).mono ?_
        rintro e w5 ⟨rfl, hb⟩
        replace HB := Lib.hid (HB.out.trans (hb.mono HB.out.size))
        replace HK4 := Lib.hid (HK4.out.ext hb)
        replace HK6 := Lib.hid (HK6.out.ext hb)
        clear hb H2
        go_wp2_with (first
          | (refine wpList_alloc_arr rfl RHT rfl arrz_RHT ?_; intro g8 w6 hg8 hk8 hb8)
          | (refine wpList_store_agg rfl RHT (.tmp 8) (.tmp 18) rfl g8 (hv Y) _ RHT (by rfl) (by rfl) agg_RHT hk8 (hv_size _) (hv_size _) (hv_one _) ?_; intro w7 hk8' ht8 hs8; have bb : Ext w5 w7 := hb8.trans (ht8.below hb8.size (fun i hi => by subst hi; exact hg8)); have HB7 := Lib.hid (HB.out.trans (Below.mono bb HB.out.size)); have HJ4 := Lib.hid (HK4.out.ext bb); have HJ6 := Lib.hid (HK6.out.ext bb); have HJ8 := Lib.hid hk8'; have q6 := HJ6.out.h0; have q8 := HJ8.out.h0; clear hg8 hk8 hb8 hk8' ht8 hs8 bb HB HK4 HK6)
          | (refine wpList_load_agg rfl RHT (.tmp 8) rfl g8 0 (hv Y) (by rfl) agg_RHT HJ8.out.at (hv_size _) ?_)
          | (refine wpList_store_agg rfl RHT (.tmp 4) (.tmp 49) rfl g4 (hv Y) _ RHT (by rfl) (by rfl) agg_RHT HJ4.out (hv_size _) (hv_size _) (hv_one _) ?_; intro w9 hk9 ht9 hs9; clear q6 q8))
        refine bodyPost_ret (v := .tuple #[.agg (hv Y), .int .i64 0]) ?_ rfl ?_
        · exact results_agg2 agg_RHT rfl _ _ g4 _ _ (by rfl) (by rfl) hk9 (hv_size _)
        · exact ⟨by rw [HX.out]; rfl, HB7.out.trans (ht9.below HB7.out.size (fun i hi => by subst hi; exact Hg4.out))⟩
theorem refDec_ba (v : Value) (l : List Nat) (w : World) (h : BA w v l) :
    Calls Tryd.prog 10 #[v] w fun e w' => e = .returned (.tuple #[.agg (hv (hdec l).1), .int .i64 ((hdec l).2 : Nat)]) ∧ Below w.heap.size w w' := by
  obtain ⟨a, c, rfl, hs, h1, h2⟩ := h.ex
  exact refDec_any a _ c l rfl w h.b8 h1 h2 hs
/-- The document's Pick, of whatever bytes. -/
theorem refPick_ba (u v : Value) (la lb : List Nat) (w : World) (h : BA w u la) (h' : BA w v lb) :
    Calls Tryd.prog 12 #[u, v] w fun e w' => e = .returned (.tuple #[.agg (hv (hpick la lb).1), .int .i64 ((hpick la lb).2 : Nat)]) ∧ Below w.heap.size w w' := by
  obtain ⟨a, c, rfl, _⟩ := h.ex
  obtain ⟨a', c', rfl, _⟩ := h'.ex
  exact refPick_core a _ c a' _ c' la lb w (fun w1 hb => refDec_ba _ la w1 (h.ext hb)) (fun w1 hb => refDec_ba _ lb w1 (h'.ext hb))
end Go.Proofs.YtofbomcimicccaaDoor
