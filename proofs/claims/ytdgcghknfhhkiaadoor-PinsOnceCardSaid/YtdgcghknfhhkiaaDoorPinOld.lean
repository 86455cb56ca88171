/-
  pins' Oldest.
-/
import Derived.Test.YtdgcghknfhhkiaaDoorPinArm
import Derived.Lib.MinMax
namespace Go.Proofs.YtdgcghknfhhkiaaDoor
open Go Go.RowKit

/-- The least commit, and whether there is one. -/
def olT (l : List Pn) (N : Nat) : Nat := if pmayB l N = true then oldT l else 0
def olB (l : List Pn) (N : Nat) : Bool := pmayB l N && decide (0 < l.length)
set_option maxRecDepth 100000 in
theorem oldest_any (v : Value) (l : List Pn) (N : Nat) (w : World) (hv : EV pinE w v l) :
    Calls Tryd.prog 18 #[.agg (psv N v)] w fun e w' => e = .returned (.tuple #[.int .u64 (olT l N : Nat), .bool (olB l N)]) ∧ Below w.heap.size w w' := by
  have H1 := Lib.hid (fun (w1 : World) (h : EV pinE w1 v l) => check_any v l N w1 h)
  have Hv := Lib.hid hv
  have HB := Lib.hid (Below.refl w.heap.size w)
  clear hv
  by_cases hmy : pmayB l N = true
  · rw [show mayE l N = 0 by unfold mayE; rw [if_pos hmy], errC_0] at H1
    have e1 : olT l N = oldT l := by unfold olT; rw [if_pos hmy]
    have e2 : olB l N = decide (0 < l.length) := by unfold olB; rw [hmy, Bool.true_and]
    rw [e1, e2]
    clear e1 e2 hmy
    obtain ⟨a, c, rfl, hs, hz, hc, hm⟩ := Hv.out
    have Hs := Lib.hid hs
    obtain ⟨n, hn⟩ : ∃ n, l.length = n := ⟨_, rfl⟩
    have Hn := Lib.hid hn
    have hn9 : n ≤ 9223372036854775807 := by unfold maxLen at hm; omega
    have hc9 : c ≤ 9223372036854775807 := by unfold maxLen at hm; omega
    rw [hn] at H1 Hv hc ⊢
    clear hs hz hm hn
    by_cases h0 : n = 0
    · subst h0
      have e1 : oldT l = 0 := by rw [List.eq_nil_of_length_eq_zero Hn.out]; rfl
      rw [e1, show decide (0 < 0) = false from rfl]
      clear e1
      go_enter Tryd.func18, Tryd.ntmps18
      go_wp2_with (refine wpList_box_arr rfl PS (.tmp 0) rfl (psv N (.slice a 0 c)) (by rfl) ?_; intro g1 w1 hg1 hk1 hb1; have q0 := hk1.ps0; have q1 := hk1.ps1)
      have HK1 := Lib.hid hk1
      replace HB := Lib.hid hb1
      refine (H1.out w1 (Hv.out.ext HB.out)).mono ?_
      rintro e w2 ⟨rfl, hb2⟩
      replace HB := Lib.hid (HB.out.trans (hb2.mono HB.out.size))
      replace HK1 := Lib.hid (HK1.out.ext hb2)
      clear hg1 hk1 hb1 hb2 H1 Hv q0 q1
      have q1 := HK1.out.ps1
      go_wp2
      go_ret2
      exact ⟨rfl, HB.out⟩
    · have d0 : ((n : Int) == 0) = false := by rw [beq_eq_false_iff_ne]; omega
      have p0 : 0 < n := by omega
      obtain ⟨T, hT⟩ : ∃ T, oldT l = T := ⟨_, rfl⟩
      have hT2 := oldT_first l (by rw [Hn.out]; exact p0)
      rw [hT] at hT2
      rw [hT, decide_eq_true p0]
      have HT := Lib.hid hT2
      clear hT hT2
      obtain ⟨g, o, rfl, hcell⟩ := Hs.out.pin (by rw [Hn.out]; exact p0)
      go_enter Tryd.func18, Tryd.ntmps18
      go_wp2_with (refine wpList_box_arr rfl PS (.tmp 0) rfl (psv N (.slice (some ⟨g, o, none⟩) n c)) (by rfl) ?_; intro g1 w1 hg1 hk1 hb1; have q0 := hk1.ps0; have q1 := hk1.ps1)
      have HK1 := Lib.hid hk1
      replace HB := Lib.hid hb1
      refine (H1.out w1 (Hv.out.ext HB.out)).mono ?_
      rintro e w2 ⟨rfl, hb2⟩
      replace HB := Lib.hid (HB.out.trans (hb2.mono HB.out.size))
      replace HK1 := Lib.hid (HK1.out.ext hb2)
      clear hg1 hk1 hb1 hb2 H1 Hv q0 q1
      have q1 := HK1.out.ps1
      have h0c := ((hcell 0 (by rw [Hn.out]; exact p0)).below HB.out (Nat.le_refl _)).sq
      rw [Nat.zero_mul, Nat.add_zero] at h0c
      clear hcell
      generalize pn l 0 = y0 at *
      obtain ⟨I0, S0, F0⟩ := y0
      dsimp only at h0c HT
      by_cases hc1 : c = 1
      · subst hc1
        obtain rfl : n = 1 := by omega
        have e1 : T = S0 := by rw [HT.out, oldR_end _ _ _ (by rw [Hn.out]; exact Nat.le_refl _)]
        subst e1
        go_wp2_with fail
        go_loopw [4, 25] (fun t i wr => t = .int .u64 T ∧ i = .int .i64 0 ∧ Hid (Below w.heap.size w wr)) (fun _ _ _ => 0)
        case atStart => exact ⟨rfl, rfl, HB.out⟩
        case round =>
          obtain ⟨rfl, rfl, HB2⟩ := hrel
          go_wp2
          go_ret2
          exact ⟨rfl, HB2.out⟩
      · obtain ⟨m, rfl⟩ : ∃ m, n = m + 1 := ⟨n - 1, by omega⟩
        have Hs2 := Lib.hid (show ES pinE w2 (some ⟨g, o, none⟩) l from Hs.out.below HB.out (Nat.le_refl _))
        have HB0 := HB
        go_wp2_with fail
        go_loopw [4, 25] (fun t i wr => ∃ (k A : Nat), t = .int .u64 A ∧ i = .int .i64 k ∧ k ≤ m ∧ Hid (oldR A (l.drop (k + 1)) = T) ∧ Hid (Below w2.heap.size w2 wr)) (fun _ i _ => m - (intOf i).toNat)
        case atStart => exact ⟨0, S0, rfl, rfl, by omega, HT.out.symm, Below.refl _ _⟩
        case round =>
          obtain ⟨k, A, rfl, rfl, hk, hA, hB⟩ := hrel
          by_cases hlt : k < m
          · obtain ⟨g', o', he, hcell⟩ := (Hs2.out.below hB.out (Nat.le_refl _)).pin (by rw [Hn.out]; omega)
            cases he
            have hc2 := hcell (k + 1) (by rw [Hn.out]; omega)
            rw [show o + (k + 1) * 18 = o + 18 + k * 18 by omega] at hc2
            have Hc := Lib.hid hc2
            have hA2 := hA.out
            rw [oldR_drop A l (k + 1) (by rw [Hn.out]; omega)] at hA2
            generalize pn l (k + 1) = y at *
            obtain ⟨I, S, F⟩ := y
            dsimp only at hA2
            have HA := Lib.hid hA2
            have i1 : (k : Int) < (m : Int) := by omega
            clear hcell hA hA2 hc2 q1 h0c
            go_wp2_with (first
              | (refine wpList_load_agg rfl PT (.tmp 27) rfl g (o + 18 + k * 18) (pv ⟨I, S, F⟩) (by rfl) agg_PT Hc.out (pv_size _) ?_)
              | (refine wpList_alloc_arr rfl PT rfl arrz_PT ?_; intro g7 w7 hg7 hk7 hb7)
              | (refine wpList_store_agg rfl PT (.tmp 6) (.tmp 28) rfl g7 (pv ⟨I, S, F⟩) _ PT (by rfl) (by rfl) agg_PT hk7 (pv_size _) (pv_size _) (pv_one _) ?_; intro w8 hk8 ht8 hs8; have q0 := hk8.at.sq; rw [Nat.zero_add] at q0))
            go_roundw
            case rel => exact ⟨_, _, _, ⟨k + 1, min A S, rfl, rfl, by omega, HA, hB.out.trans ((hb7.mono hB.out.size).trans (ht8.below (by have := hb7.size; have := hB.out.size; omega) (fun i hi => by subst hi; have := hB.out.size; omega)))⟩, by congr 1; omega, rfl, by go_num⟩
            case measure => simp [intOf]; omega
          · obtain rfl : k = m := by omega
            have e1 : A = T := by rw [← hA.out, oldR_end _ _ _ (by rw [Hn.out]; exact Nat.le_refl _)]
            subst e1
            clear q1 h0c
            go_wp2
            go_ret2
            exact ⟨rfl, HB0.out.trans (hB.out.mono HB0.out.size)⟩
  · have e1 : olT l N = 0 := by unfold olT; rw [if_neg hmy]
    have e2 : olB l N = false := by unfold olB; rw [Bool.eq_false_iff.2 hmy, Bool.false_and]
    rw [show mayE l N = 1 by unfold mayE; rw [if_neg hmy], errC_1] at H1
    rw [e1, e2]
    clear e1 e2 hmy
    obtain ⟨a, c, rfl, hs, hz, hc, hm⟩ := Hv.out
    clear hs hz hc hm
    generalize l.length = n at *
    go_enter Tryd.func18, Tryd.ntmps18
    go_wp2_with (refine wpList_box_arr rfl PS (.tmp 0) rfl (psv N (.slice a n c)) (by rfl) ?_; intro g1 w1 hg1 hk1 hb1; have q0 := hk1.ps0; have q1 := hk1.ps1)
    replace HB := Lib.hid hb1
    refine (H1.out w1 (Hv.out.ext HB.out)).mono ?_
    rintro e w2 ⟨rfl, hb2⟩
    replace HB := Lib.hid (HB.out.trans (hb2.mono HB.out.size))
    clear hg1 hk1 hb1 hb2 H1 Hv q0 q1
    go_wp2
    go_ret2
    exact ⟨rfl, HB.out⟩
end Go.Proofs.YtdgcghknfhhkiaaDoor
