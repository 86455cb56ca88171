/-
  The document's Get.
-/
import Derived.Test.YtdgcghknfhhkiaaDoorRefPMay
import Derived.Test.YtdgcghknfhhkiaaDoorPinGet
namespace Go.Proofs.YtdgcghknfhhkiaaDoor
open Go Go.RowKit

set_option maxRecDepth 100000 in
set_option maxHeartbeats 1000000 in
theorem refGet_any (v : Value) (l : List Pn) (N d : Nat) (w : World) (hv : PV w v l) :
    Calls Tryd.prog 13 #[.agg (psv N v), .int .u64 (d : Nat)] w fun e w' => e = .returned (.tuple #[.agg (pv (gtP l N d)), .int .i64 (fiE l N d)]) ∧ Below w.heap.size w w' := by
  have H1 := Lib.hid (fun (w1 : World) (h : PV w1 v l) => refMay_any v l N w1 h)
  have Hv := Lib.hid hv
  obtain ⟨a, c, rfl, hs, hc, hm⟩ := hv
  have Hs := Lib.hid hs
  obtain ⟨n, hn⟩ : ∃ n, l.length = n := ⟨_, rfl⟩
  have Hn := Lib.hid hn
  have hn9 : n ≤ 9223372036854775807 := by unfold maxLen at hm; omega
  rw [hn] at H1 Hv ⊢
  clear hs hc hm hn
  cases hmy : pmayB l N with
  | false =>
    rw [hmy] at H1
    have hE := fiE_arg (d := d) hmy
    rw [show gtP l N d = pn0 by unfold gtP; rw [hE, if_neg (by decide)], hE]
    clear hmy hE
    go_enter Tryd.func13, Tryd.ntmps13
    go_wp2_with (first
      | (refine wpList_box_arr rfl RPS (.tmp 0) rfl (psv N (.slice a n c)) (by rfl) ?_; intro g2 w1 hg1 hk1 hb1)
      | (refine wpList_alloc_arr rfl RPT rfl arrz_RPT ?_; intro g4 w2 hg2 hk2 hb2; have hj1 := hk1.ext hb2; have q0 := hj1.ps0; have q1 := hj1.ps1))
    have HB := Lib.hid (hb1.trans (hb2.mono hb1.size))
    have HK2 := Lib.hid hk2
    have Hg : Hid (w.heap.size ≤ g4) := by show _ ≤ _; have := hb1.size; omega
    refine (H1.out w2 (Hv.out.ext HB.out)).mono ?_
    rintro e w3 ⟨rfl, hb3⟩
    replace HB := Lib.hid (HB.out.trans (hb3.mono HB.out.size))
    replace HK2 := Lib.hid (HK2.out.ext hb3)
    clear hg1 hg2 hk1 hk2 hb1 hb2 hb3 hj1 q0 q1 H1 Hv
    go_wp2_with (first
      | (refine wpList_build_rpin0 rfl rfl ?_)
      | (refine wpList_store_agg rfl RPT (.tmp 4) (.tmp 10) rfl g4 (pv pn0) _ RPT (by rfl) (by rfl) agg_RPT HK2.out (pv_size _) (pv_size _) (pv_one _) ?_; intro w8 hk8 ht8 hs8))
    refine bodyPost_ret (v := .tuple #[.agg (pv pn0), .int .i64 1]) ?_ rfl ?_
    · exact results_agg2 agg_RPT rfl _ _ g4 _ _ (by rfl) (by rfl) hk8 (pv_size _)
    · exact ⟨rfl, HB.out.trans (ht8.below HB.out.size (fun i hi => by subst hi; exact Hg.out))⟩
  | true =>
    rw [hmy] at H1
    obtain ⟨R, hR⟩ : ∃ R, pfi d l 0 = R := ⟨_, rfl⟩
    have hE : fiE l N d = if 0 ≤ R then 0 else 6 := by unfold fiE; rw [if_pos hmy, hR]
    have hP : gtP l N d = if 0 ≤ R then pn l R.toNat else pn0 := by
      unfold gtP; rw [hE, hR]
      by_cases h : 0 ≤ R
      · rw [if_pos h, if_pos rfl, if_pos h]
      · rw [if_neg h, if_neg (by decide), if_neg h]
    obtain ⟨G, hG⟩ : ∃ G, gtP l N d = G := ⟨_, rfl⟩
    obtain ⟨E, hEE⟩ : ∃ E, fiE l N d = E := ⟨_, rfl⟩
    have HAt : Hid (∀ k : Nat, R = (k : Int) → G = pn l k ∧ E = 0) := fun k h => by
      rw [← hG, ← hEE, hP, hE, h, if_pos (by omega), if_pos (by omega)]; exact ⟨rfl, rfl⟩
    have HNo : Hid (R = -1 → G = pn0 ∧ E = 6) := fun h => by
      rw [← hG, ← hEE, hP, hE, h, if_neg (by decide), if_neg (by decide)]; exact ⟨rfl, rfl⟩
    rw [hG, hEE]
    have HR := Lib.hid hR
    clear hmy hE hP hR hG hEE
    go_enter Tryd.func13, Tryd.ntmps13
    go_wp2_with (first
      | (refine wpList_box_arr rfl RPS (.tmp 0) rfl (psv N (.slice a n c)) (by rfl) ?_; intro g2 w1 hg1 hk1 hb1)
      | (refine wpList_alloc_arr rfl RPT rfl arrz_RPT ?_; intro g4 w2 hg2 hk2 hb2; have hj1 := hk1.ext hb2; have q0 := hj1.ps0; have q1 := hj1.ps1))
    have HB := Lib.hid (hb1.trans (hb2.mono hb1.size))
    have HK1 := Lib.hid hj1
    have HK2 := Lib.hid hk2
    have Hg : Hid (w.heap.size ≤ g4) := by show _ ≤ _; have := hb1.size; omega
    refine (H1.out w2 (Hv.out.ext HB.out)).mono ?_
    rintro e w3 ⟨rfl, hb3⟩
    replace HB := Lib.hid (HB.out.trans (hb3.mono HB.out.size))
    replace HK1 := Lib.hid (HK1.out.ext hb3)
    replace HK2 := Lib.hid (HK2.out.ext hb3)
    have Hs3 := Lib.hid (show PA w3 a l from Hs.out.below HB.out (Nat.le_refl _))
    clear hg1 hg2 hk1 hk2 hb1 hb2 hb3 hj1 q0 q1 H1 Hv
    go_wp2_with fail
    go_loopw [6] (fun i wr => ∃ k : Nat, i = .int .i64 k ∧ k ≤ n ∧ Hid (pfi d (l.drop k) k = R) ∧ wr = w3) (fun i _ => n - (intOf i).toNat)
    case atStart => exact ⟨0, rfl, by omega, HR.out, rfl⟩
    case round =>
      obtain ⟨k, rfl, hk, hA, rfl⟩ := hrel
      have z1 := HK1.out.ps1
      by_cases hlt : k < n
      · have i1 : (k : Int) < (n : Int) := by omega
        obtain ⟨g, o, rfl, hcell⟩ := Hs3.out.pin (by rw [Hn.out]; omega)
        have Hc := Lib.hid (hcell k (by rw [Hn.out]; exact hlt))
        have q2 := Hc.out.id
        have hdk := hA.out
        rw [pfi_drop d l k (by rw [Hn.out]; exact hlt)] at hdk
        obtain ⟨y, hy⟩ : ∃ y, pn l k = y := ⟨_, rfl⟩
        have HY := Lib.hid hy
        rw [hy] at q2 hdk Hc
        clear hcell hA hy
        obtain ⟨I, S, F⟩ := y
        dsimp only at q2 hdk
        by_cases h1 : I = d
        · have d1 : ((I : Int) == (d : Int)) = true := by rw [beq_iff_eq]; omega
          rw [if_pos h1] at hdk
          obtain ⟨hG, rfl⟩ := HAt.out k hdk.symm
          rw [HY.out] at hG
          subst hG
          clear h1 HR HY HAt HNo hdk
          go_wp2_with (first
            | (refine wpList_load_agg rfl RPT (.tmp 29) rfl g (o + k * 18) (pv ⟨I, S, F⟩) (by rfl) agg_RPT Hc.out (pv_size _) ?_)
            | (refine wpList_store_agg rfl RPT (.tmp 4) (.tmp 30) rfl g4 (pv ⟨I, S, F⟩) _ RPT (by rfl) (by rfl) agg_RPT HK2.out (pv_size _) (pv_size _) (pv_one _) ?_; intro w8 hk8 ht8 hs8))
          refine bodyPost_ret (v := .tuple #[.agg (pv ⟨I, S, F⟩), .int .i64 0]) ?_ rfl ?_
          · exact results_agg2 agg_RPT rfl _ _ g4 _ _ (by rfl) (by rfl) hk8 (pv_size _)
          · exact ⟨rfl, HB.out.trans (ht8.below HB.out.size (fun i hi => by subst hi; exact Hg.out))⟩
        · have d1 : ((I : Int) == (d : Int)) = false := by rw [beq_eq_false_iff_ne]; omega
          rw [if_neg h1] at hdk
          have HD := Lib.hid hdk
          clear hdk h1 HY
          go_wp2
          go_roundw
          case rel => exact ⟨k + 1, by go_num, by omega, HD, trivial⟩
          case measure => simp [intOf]; omega
      · obtain rfl : k = n := by omega
        have e1 : R = -1 := by rw [← hA.out, List.drop_of_length_le (by rw [Hn.out]; exact Nat.le_refl _)]; rfl
        obtain ⟨rfl, rfl⟩ := HNo.out e1
        clear hA HR HAt HNo e1
        go_wp2_with (first
          | (refine wpList_build_rpin0 rfl rfl ?_)
          | (refine wpList_store_agg rfl RPT (.tmp 4) (.tmp 31) rfl g4 (pv pn0) _ RPT (by rfl) (by rfl) agg_RPT HK2.out (pv_size _) (pv_size _) (pv_one _) ?_; intro w8 hk8 ht8 hs8))
        refine bodyPost_ret (v := .tuple #[.agg (pv pn0), .int .i64 6]) ?_ rfl ?_
        · exact results_agg2 agg_RPT rfl _ _ g4 _ _ (by rfl) (by rfl) hk8 (pv_size _)
        · exact ⟨rfl, HB.out.trans (ht8.below HB.out.size (fun i hi => by subst hi; exact Hg.out))⟩
end Go.Proofs.YtdgcghknfhhkiaaDoor
