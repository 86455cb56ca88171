/-
  pins' Get.
-/
import Derived.Test.YtdgcghknfhhkiaaDoorPinFind
namespace Go.Proofs.YtdgcghknfhhkiaaDoor
open Go Go.RowKit

theorem errC_not {f : Int} (h : f ≠ 0) : errC f = .iface 67 (.int .i64 f) := by unfold errC; rw [if_neg h]
theorem fiE_way (l : List Pn) (N d : Nat) : (fiE l N d ≠ 0) ∨ (fiE l N d = 0 ∧ pmayB l N = true ∧ ∃ k, k < l.length ∧ pfi d l 0 = (k : Int) ∧ (pn l k).id = d) := by
  by_cases hm : pmayB l N = true
  · rcases pfi_way d l 0 with ⟨h1, _⟩ | ⟨k, h1, h2, h3, _⟩
    · exact .inl (by rw [fiE_none hm h1]; decide)
    · rw [Nat.zero_add] at h2
      exact .inr ⟨fiE_at hm h2, hm, k, h1, h2, h3⟩
  · exact .inl (by rw [fiE_arg (Bool.eq_false_iff.2 hm)]; decide)
set_option maxRecDepth 100000 in
theorem get_any (v : Value) (l : List Pn) (N d : Nat) (w : World) (hv : EV pinE w v l) :
    Calls Tryd.prog 12 #[.agg (psv N v), .int .u64 (d : Nat)] w fun e w' => e = .returned (.tuple #[.agg (pv (gtP l N d)), errC (fiE l N d)]) ∧ Below w.heap.size w w' := by
  have H1 := Lib.hid (fun (w1 : World) (h : EV pinE w1 v l) => find_any v l N d w1 h)
  have Hv := Lib.hid hv
  obtain ⟨a, c, rfl, hs, hz, hc, hm⟩ := hv
  have Hs := Lib.hid hs
  obtain ⟨n, hn⟩ : ∃ n, l.length = n := ⟨_, rfl⟩
  have Hn := Lib.hid hn
  have hn9 : n ≤ 9223372036854775807 := by unfold maxLen at hm; omega
  rw [hn] at H1 Hv ⊢
  clear hs hz hc hm
  rcases fiE_way l N d with hE | ⟨hE, hmy, k, hk, hp, hid⟩
  · have hg : gtP l N d = pn0 := by unfold gtP; rw [if_neg hE]
    have ha : fiA l N d = 0 := by unfold fiA; rw [if_neg hE]
    rw [hg]
    rw [ha, errC_not hE] at H1
    rw [errC_not hE]
    generalize fiE l N d = E at *
    clear hE hg ha hn
    go_enter Tryd.func12, Tryd.ntmps12
    go_wp2_with (first
      | (refine wpList_box_arr rfl PS (.tmp 0) rfl (psv N (.slice a n c)) (by rfl) ?_; intro g2 w1 hg1 hk1 hb1)
      | (refine wpList_alloc_arr rfl PT rfl arrz_PT ?_; intro g4 w2 hg2 hk2 hb2; have hj1 := hk1.ext hb2; have q0 := hj1.ps0; have q1 := hj1.ps1))
    have HB := Lib.hid (hb1.trans (hb2.mono hb1.size))
    have HK2 := Lib.hid hk2
    have Hg : Hid (w.heap.size ≤ g4) := by show _ ≤ _; have := hb1.size; omega
    refine (H1.out w2 (Hv.out.ext HB.out)).mono ?_
    rintro e w3 ⟨rfl, hb3⟩
    replace HB := Lib.hid (HB.out.trans (hb3.mono HB.out.size))
    replace HK2 := Lib.hid (HK2.out.ext hb3)
    clear hg1 hg2 hk1 hk2 hb1 hb2 hb3 hj1 q0 q1 H1 Hv
    go_wp2_with (first
      | (refine wpList_build_pin0 rfl rfl ?_)
      | (refine wpList_store_agg rfl PT (.tmp 4) (.tmp 16) rfl g4 (pv pn0) _ PT (by rfl) (by rfl) agg_PT HK2.out (pv_size _) (pv_size _) (pv_one _) ?_; intro w8 hk8 ht8 hs8))
    refine bodyPost_ret (v := .tuple #[.agg (pv pn0), .iface 67 (.int .i64 E)]) ?_ rfl ?_
    · exact results_agg2 agg_PT rfl _ _ g4 _ _ (by rfl) (by rfl) hk8 (pv_size _)
    · exact ⟨rfl, HB.out.trans (ht8.below HB.out.size (fun i hi => by subst hi; exact Hg.out))⟩
  · have hg : gtP l N d = pn l k := by unfold gtP; rw [if_pos hE, hp]; rfl
    have ha : fiA l N d = (k : Int) := fiA_at hmy hp
    rw [hg, hE, errC_0]
    rw [ha, hE, errC_0] at H1
    rw [hn] at hk
    have hk2 : (k : Int) < (n : Int) := by omega
    obtain ⟨g, o, rfl, hcell⟩ := Hs.out.pin (by rw [hn]; omega)
    have Hc := Lib.hid (hcell k (by rw [hn]; exact hk))
    generalize pn l k = y at *
    clear hE hg ha hn hp hid hmy hcell
    go_enter Tryd.func12, Tryd.ntmps12
    go_wp2_with (first
      | (refine wpList_box_arr rfl PS (.tmp 0) rfl (psv N (.slice (some ⟨g, o, none⟩) n c)) (by rfl) ?_; intro g2 w1 hg1 hk1 hb1)
      | (refine wpList_alloc_arr rfl PT rfl arrz_PT ?_; intro g4 w2 hg2 hk2 hb2; have hj1 := hk1.ext hb2; have q0 := hj1.ps0; have q1 := hj1.ps1))
    have HB := Lib.hid (hb1.trans (hb2.mono hb1.size))
    have HK1 := Lib.hid hj1
    have HK2 := Lib.hid hk2
    have Hg : Hid (w.heap.size ≤ g4) := by show _ ≤ _; have := hb1.size; omega
    refine (H1.out w2 (Hv.out.ext HB.out)).mono ?_
    rintro e w3 ⟨rfl, hb3⟩
    replace HB := Lib.hid (HB.out.trans (hb3.mono HB.out.size))
    replace HK1 := Lib.hid (HK1.out.ext hb3)
    replace HK2 := Lib.hid (HK2.out.ext hb3)
    clear hg1 hg2 hk1 hk2 hb1 hb2 hb3 hj1 q0 q1 H1 Hv
    have q1 := HK1.out.ps1
    go_wp2_with (first
      | (refine wpList_load_agg rfl PT (.tmp 21) rfl g (o + k * 18) (pv y) (by rfl) agg_PT (Hc.out.ext HB.out) (pv_size _) ?_)
      | (refine wpList_store_agg rfl PT (.tmp 4) (.tmp 22) rfl g4 (pv y) _ PT (by rfl) (by rfl) agg_PT HK2.out (pv_size _) (pv_size _) (pv_one _) ?_; intro w8 hk8 ht8 hs8))
    refine bodyPost_ret (v := .tuple #[.agg (pv y), .nilIface]) ?_ rfl ?_
    · exact results_agg2 agg_PT rfl _ _ g4 _ _ (by rfl) (by rfl) hk8 (pv_size _)
    · exact ⟨rfl, HB.out.trans (ht8.below HB.out.size (fun i hi => by subst hi; exact Hg.out))⟩
end Go.Proofs.YtdgcghknfhhkiaaDoor
