/-
  pins' Held, Oldest.
-/
import Derived.Test.YtdgcghknfhhkiaaDoorPinArm
import Derived.Test.YtdgcghknfhhkiaaDoorBit3o
import Derived.Lib.MinMax
namespace Go.Proofs.YtdgcghknfhhkiaaDoor
open Go Go.RowKit

/-- What all hold, nothing where they may not be. -/
def hdR (l : List Pn) (N : Nat) : Nat → Bool := if pmayB l N = true then heldR l else fun _ => false
set_option maxRecDepth 100000 in
theorem held_any (v : Value) (l : List Pn) (N : Nat) (w : World) (hv : EV pinE w v l) :
    Calls Tryd.prog 19 #[.agg (psv N v)] w fun e w' => e = .returned (.agg (sc (hdR l N))) ∧ Below w.heap.size w w' := by
  have H1 := Lib.hid (fun (w1 : World) (h : EV pinE w1 v l) => check_any v l N w1 h)
  have Hv := Lib.hid hv
  have HB := Lib.hid (Below.refl w.heap.size w)
  clear hv
  by_cases hmy : pmayB l N = true
  · have e1 : hdR l N = heldR l := by unfold hdR; rw [if_pos hmy]
    rw [show mayE l N = 0 by unfold mayE; rw [if_pos hmy], errC_0] at H1
    rw [e1]
    clear e1 hmy
    obtain ⟨a, c, rfl, hs, hz, hc, hm⟩ := Hv.out
    have Hs := Lib.hid hs
    obtain ⟨n, hn⟩ : ∃ n, l.length = n := ⟨_, rfl⟩
    have Hn := Lib.hid hn
    have hn9 : n ≤ 9223372036854775807 := by unfold maxLen at hm; omega
    rw [hn] at H1 Hv ⊢
    clear hs hz hc hm hn
    go_enter Tryd.func19, Tryd.ntmps19
    go_wp2_with (first
      | (refine wpList_box_arr rfl PS (.tmp 0) rfl (psv N (.slice a n c)) (by rfl) ?_; intro g1 w1 hg1 hk1 hb1)
      | (show wpList _ _ _ (⟨some 2, _, _, _, _, _⟩ :: _) _ _; refine wpList_alloc_arr rfl TS rfl arrz_TS ?_; intro g2 w2 hg2 hk2 hb2)
      | (show wpList _ _ _ (⟨some 3, _, _, _, _, _⟩ :: _) _ _; refine wpList_alloc_arr rfl TS rfl arrz_TS ?_; intro g3 w3 hg3 hk3 hb3; have hj1 := (hk1.ext hb2).ext hb3; have q0 := hj1.ps0; have q1 := hj1.ps1))
    have Hg : Hid (w.heap.size ≤ g2 ∧ w.heap.size ≤ g3 ∧ g1 ≠ g3 ∧ g2 ≠ g3) := ⟨by have := hb1.size; omega, by have := hb1.size; have := hb2.size; omega, by have := hb2.size; have := hk1.lt; omega, by have := hk2.lt; omega⟩
    replace HB := Lib.hid (hb1.trans ((hb2.mono hb1.size).trans (hb3.mono (by have := hb1.size; have := hb2.size; omega))))
    have HK1 := Lib.hid hj1
    have HK2 := Lib.hid (hk2.ext hb3)
    have HK3 := Lib.hid hk3
    refine (H1.out w3 (Hv.out.ext HB.out)).mono ?_
    rintro e w4 ⟨rfl, hb4⟩
    replace HB := Lib.hid (HB.out.trans (hb4.mono HB.out.size))
    replace HK1 := Lib.hid (HK1.out.ext hb4)
    replace HK2 := Lib.hid (HK2.out.ext hb4)
    replace HK3 := Lib.hid (HK3.out.ext hb4)
    clear hg1 hg2 hg3 hk1 hk2 hk3 hb1 hb2 hb3 hb4 hj1 q0 q1 H1 Hv
    have q1 := HK1.out.ps1
    go_wp2_with fail
    clear q1
    go_loopw [13] (fun i wr => ∃ k : Nat, i = .int .i64 k ∧ k ≤ n ∧ Hid (Blk wr g3 TS (sc (heldR (l.take k))) ∧ Blk wr g2 TS (sc (fun _ => false))) ∧ Hid (Below w.heap.size w wr)) (fun i _ => n - (intOf i).toNat)
    case atStart => exact ⟨0, rfl, by omega, ⟨by rw [held_zero]; exact HK3.out, HK2.out⟩, HB.out⟩
    case round =>
      obtain ⟨k, rfl, hk, HK, HB⟩ := hrel
      by_cases hlt : k < n
      · obtain ⟨g, o, rfl, hcell⟩ := (Hs.out.below HB.out (Nat.le_refl _)).pin (by rw [Hn.out]; omega)
        have Hc := Lib.hid (hcell k (by rw [Hn.out]; exact hlt))
        have hst := held_take l k (by rw [Hn.out]; exact hlt)
        obtain ⟨F2, hF2⟩ : ∃ F2, heldR (l.take (k + 1)) = F2 := ⟨_, rfl⟩
        rw [hF2] at hst
        have HF2 := Lib.hid hF2
        generalize heldR (l.take k) = F1 at *
        generalize pn l k = y at *
        obtain ⟨I, S, F⟩ := y
        dsimp only at hst
        have CE := Lib.hid (fun w => either_any F1 F w)
        rw [hst] at CE
        have i1 : (k : Int) < (n : Int) := by omega
        clear hcell hst hF2
        go_wp2_with (first
          | (refine wpList_load_agg rfl PT (.tmp 15) rfl g (o + k * 18) (pv ⟨I, S, F⟩) (by rfl) agg_PT Hc.out (pv_size _) ?_)
          | (refine wpList_alloc_arr rfl PT rfl arrz_PT ?_; intro g5 w5 hg5 hk5 hb5)
          | (refine wpList_store_agg rfl PT (.tmp 5) (.tmp 16) rfl g5 (pv ⟨I, S, F⟩) _ PT (by rfl) (by rfl) agg_PT hk5 (pv_size _) (pv_size _) (pv_one _) ?_; intro w6 hk6 ht6 hs6; have b6 := (Below.refl wr.heap.size wr).trans ((hb5.mono (Nat.le_refl _)).trans (ht6.below (by have := hb5.size; omega) (fun i hi => by subst hi; exact hg5))))
          | (show wpList _ _ _ (⟨some 17, _, _, _, _, _⟩ :: _) _ _; refine wpList_load_agg rfl TS (.tmp 3) rfl g3 0 (sc F1) (by rfl) agg_TS (HK.out.1.ext b6).at (sc_size _) ?_)
          | (show wpList _ _ _ (⟨some 19, _, _, _, _, _⟩ :: _) _ _; refine wpList_load_agg rfl TS (.tmp 18) rfl g5 2 (sc F) (by rfl) agg_TS (by have := hk6.at.pages; rwa [Nat.zero_add] at this) (sc_size _) ?_))
        have HB6 := Lib.hid (HB.out.trans (b6.mono HB.out.size))
        have HK6 : Hid (Blk w6 g3 TS (sc F1) ∧ Blk w6 g2 TS (sc (fun _ => false))) := ⟨HK.out.1.ext b6, HK.out.2.ext b6⟩
        clear hg5 hk5 hb5 hk6 ht6 hs6 b6 HK HB Hc
        refine (CE.out w6).mono ?_
        rintro e w7 ⟨rfl, hb7⟩
        replace HB6 := Lib.hid (HB6.out.trans (hb7.mono HB6.out.size))
        replace HK6 : Hid (Blk w7 g3 TS (sc F1) ∧ Blk w7 g2 TS (sc (fun _ => false))) := ⟨HK6.out.1.ext hb7, HK6.out.2.ext hb7⟩
        clear hb7 CE
        go_wp2_with (refine wpList_store_agg rfl TS (.tmp 3) (.tmp 20) rfl g3 (sc F2) _ TS (by rfl) (by rfl) agg_TS HK6.out.1 (sc_size _) (sc_size _) (sc_one _) ?_; intro w8 hk8 ht8 hs8)
        go_roundw
        case rel => exact ⟨k + 1, by go_num, by omega, ⟨by rw [HF2.out]; exact hk8, HK6.out.2.turn ht8 Hg.out.2.2.2⟩, HB6.out.trans (ht8.below HB6.out.size (fun i hi => by subst hi; exact Hg.out.2.1))⟩
        case measure => simp [intOf]; omega
      · obtain rfl : k = n := by omega
        have HK2 := Lib.hid HK.out
        rw [List.take_of_length_le (show l.length ≤ k by rw [Hn.out]; exact Nat.le_refl _)] at HK2
        clear HK
        go_wp2_with (first
          | (refine wpList_load_agg rfl TS (.tmp 3) rfl g3 0 _ (by rfl) agg_TS HK2.out.1.at (sc_size _) ?_)
          | (refine wpList_store_agg rfl TS (.tmp 2) (.tmp 22) rfl g2 (sc (heldR l)) _ TS (by rfl) (by rfl) agg_TS HK2.out.2 (sc_size _) (sc_size _) (sc_one _) ?_; intro w8 hk8 ht8 hs8))
        refine bodyPost_ret (v := .agg (sc (heldR l))) ?_ rfl ?_
        · exact results_agg agg_TS rfl _ _ g2 _ (by rfl) hk8 (sc_size _)
        · exact ⟨rfl, HB.out.trans (ht8.below HB.out.size (fun i hi => by subst hi; exact Hg.out.1))⟩
  · have e1 : hdR l N = fun _ => false := by unfold hdR; rw [if_neg hmy]
    rw [show mayE l N = 1 by unfold mayE; rw [if_neg hmy], errC_1] at H1
    rw [e1]
    clear e1 hmy
    obtain ⟨a, c, rfl, hs, hz, hc, hm⟩ := Hv.out
    clear hs hz hc hm
    generalize l.length = n at *
    go_enter Tryd.func19, Tryd.ntmps19
    go_wp2_with (first
      | (refine wpList_box_arr rfl PS (.tmp 0) rfl (psv N (.slice a n c)) (by rfl) ?_; intro g1 w1 hg1 hk1 hb1)
      | (show wpList _ _ _ (⟨some 2, _, _, _, _, _⟩ :: _) _ _; refine wpList_alloc_arr rfl TS rfl arrz_TS ?_; intro g2 w2 hg2 hk2 hb2)
      | (show wpList _ _ _ (⟨some 3, _, _, _, _, _⟩ :: _) _ _; refine wpList_alloc_arr rfl TS rfl arrz_TS ?_; intro g3 w3 hg3 hk3 hb3; have hj1 := (hk1.ext hb2).ext hb3; have q0 := hj1.ps0; have q1 := hj1.ps1))
    have Hg : Hid (w.heap.size ≤ g2) := by show _ ≤ _; have := hb1.size; omega
    replace HB := Lib.hid (hb1.trans ((hb2.mono hb1.size).trans (hb3.mono (by have := hb1.size; have := hb2.size; omega))))
    have HK2 := Lib.hid (hk2.ext hb3)
    have HK3 := Lib.hid hk3
    refine (H1.out w3 (Hv.out.ext HB.out)).mono ?_
    rintro e w4 ⟨rfl, hb4⟩
    replace HB := Lib.hid (HB.out.trans (hb4.mono HB.out.size))
    replace HK2 := Lib.hid (HK2.out.ext hb4)
    replace HK3 := Lib.hid (HK3.out.ext hb4)
    clear hg1 hg2 hg3 hk1 hk2 hk3 hb1 hb2 hb3 hb4 hj1 q0 q1 H1 Hv
    go_wp2_with (first
      | (refine wpList_load_agg rfl TS (.tmp 3) rfl g3 0 _ (by rfl) agg_TS HK3.out.at (sc_size _) ?_)
      | (refine wpList_store_agg rfl TS (.tmp 2) (.tmp 9) rfl g2 (sc (fun _ => false)) _ TS (by rfl) (by rfl) agg_TS HK2.out (sc_size _) (sc_size _) (sc_one _) ?_; intro w8 hk8 ht8 hs8))
    refine bodyPost_ret (v := .agg (sc (fun _ => false))) ?_ rfl ?_
    · exact results_agg agg_TS rfl _ _ g2 _ (by rfl) hk8 (sc_size _)
    · exact ⟨rfl, HB.out.trans (ht8.below HB.out.size (fun i hi => by subst hi; exact Hg.out))⟩
end Go.Proofs.YtdgcghknfhhkiaaDoor
