/-
  ScrubTells, walked.
-/
import Derived.Test.YtfjjfickbhkpaaaDoorSure22Z
namespace Go.Proofs.YtfjjfickbhkpaaaDoor
open Go Go.RowKit

set_option maxRecDepth 100000 in
theorem tells_any (a : Option Addr) (n c : Nat) (P : List (List Nat)) (f : Nat → Bool) (w : World) (hn : P.length = n) (hc9 : n ≤ 9223372036854775807) (hP : PgIn w a P) (hT : WorthIn w) :
    Calls Tryd.prog 3 #[.slice a n c, .agg (sc f)] w fun e w' => e = .returned (.bool true) ∧ Below w.heap.size w w' := by
  have HP := Lib.hid hP
  have HN := Lib.hid hn
  have HT := Lib.hid hT
  clear hP hn hT
  go_enter Tryd.func3, Tryd.ntmps3
  have hsure := Lib.hid (fun w1 hT => zsure_any w1 hT)
  by_cases h60 : 60 < n
  · have e60 : decide ((60 : Int) < (n : Int)) = true := decide_eq_true (by omega)
    have e61 : decide (60 < n) = true := decide_eq_true (by omega)
    go_wp2_with (first | (refine wpList_box_arr rfl TW (.tmp 1) rfl (sc f) (by rfl) ?_; intro g1 w1 hg1 hk1 hb1))
    refine (hsure.out w1 (HT.out.below hb1)).mono ?_
    rintro e w2 ⟨rfl, hb2⟩
    have HB := Lib.hid (hb1.trans (hb2.mono hb1.size))
    clear hb1 hb2 hk1 hg1
    go_wp2
    go_ret
    exact ⟨rfl, HB.out⟩
  · have e60 : decide ((60 : Int) < (n : Int)) = false := decide_eq_false (by omega)
    have e61 : decide (60 < n) = false := decide_eq_false (by omega)
    have hdir := Lib.hid (fun w1 h => dirty_any a n c P f HN.out w1 (by omega) h)
    have hrdir := Lib.hid (fun w1 h => rdirty_any a n c P f HN.out w1 (by omega) h)
    have hsl := Lib.hid (fun w1 h => slack_any a n c P f HN.out w1 (by omega) h)
    have hrsl := Lib.hid (fun w1 h => rslack_any a n c P f HN.out w1 (by omega) h)
    have hcl := Lib.hid (fun w1 h hT => clean_any a n c P f HN.out w1 (by omega) h hT)
    have hrcl := Lib.hid (fun w1 h => rclean_any a n c P f HN.out w1 (by omega) h)
    have hdl := dirL_le f P n
    generalize dirL f P n = L at *
    generalize slA f P n = SA at *
    generalize slW f P n = SW at *
    generalize clnS f P n = CL at *
    go_wp2_with (first | (refine wpList_box_arr rfl TW (.tmp 1) rfl (sc f) (by rfl) ?_; intro g1 w1 hg1 hk1 hb1))
    have HK := Lib.hid hk1
    have HB := Lib.hid hb1
    replace HP := Lib.hid (HP.out.below hb1 (Nat.le_refl _))
    replace HT := Lib.hid (HT.out.below hb1)
    clear hg1 hk1 hb1
    go_loopw [5] (fun i wr => ∃ k : Nat, i = .int .i64 k ∧ k ≤ n ∧ Hid (wr = w1)) (fun i _ => n - (intOf i).toNat)
    case atStart => exact ⟨0, rfl, by omega, rfl⟩
    case round =>
      obtain ⟨k, rfl, hk, hw⟩ := hrel
      obtain rfl := hw.out
      by_cases hlt : k < n
      · obtain ⟨g, o, ad, m, cc, rfl, hcell, _⟩ := HP.out.at (k := k) (by rw [HN.out]; exact hlt)
        have i1 : (k : Int) < (n : Int) := by omega
        by_cases h6 : m ≤ 600
        · have e62 : decide ((600 : Int) < (m : Int)) = false := decide_eq_false (by omega)
          have e63 : decide (600 < m) = false := decide_eq_false (by omega)
          go_wp2
          go_roundw
          case rel => exact ⟨k + 1, by go_num, by omega, Lib.hid trivial⟩
          case measure => simp [intOf]; omega
        · have e62 : decide ((600 : Int) < (m : Int)) = true := decide_eq_true (by omega)
          have e63 : decide (600 < m) = true := decide_eq_true (by omega)
          go_wp2_with fail
          refine (hsure.out _ HT.out).mono ?_
          rintro e w2 ⟨rfl, hb2⟩
          replace HB := Lib.hid (HB.out.trans (hb2.mono HB.out.size))
          clear hb2
          go_wp2
          go_ret
          exact ⟨rfl, HB.out⟩
      · obtain rfl : k = n := by omega
        have nl : ¬ ((k : Int) < (k : Int)) := by omega
        go_wp2_with fail
        refine wp_region_gr [(0, true), (1, true), (3, true), (4, true), (2, false), (5, false), (6, true), (7, true)] (by kernel_rfl) (by kernel_rfl) (by kernel_rfl) (by kernel_rfl) (fun _ _ _ _ _ h => h) ?_
        have hb : Ext wr wr.drew := Ext.drew _
        replace HP := Lib.hid (HP.out.below hb (Nat.le_refl _))
        replace HT := Lib.hid (HT.out.below hb)
        replace HK := Lib.hid (HK.out.ext hb)
        replace HB := Lib.hid (HB.out.trans (hb.mono HB.out.size))
        clear hb
        generalize wr.drew = w2 at *
        iterate 1 (refine wpGr_read (o := ⟨_, _, _, _, _, _⟩) (v := ?_) rfl (by rfl) ?_ ?_; rotate_left; (intro w' hw'; go_simp; with_reducible rfl); simp only [Act.put, List.setIfInBounds_toArray, List.set_cons_zero, List.set_cons_succ])
        refine wpGr_read (o := ⟨_, _, _, _, _, _⟩) (v := .agg (sc f)) rfl (by rfl) (fun w' hw' => rd_load_sc TW (.tmp 3) rfl g1 f TW (by rfl) arr_TW (HK.out.ext hw')) ?_
        simp only [Act.put, List.setIfInBounds_toArray, List.set_cons_zero, List.set_cons_succ]
        iterate 1 (refine wpGr_read (o := ⟨_, _, _, _, _, _⟩) (v := ?_) rfl (by rfl) ?_ ?_; rotate_left; (intro w' hw'; go_simp; with_reducible rfl); simp only [Act.put, List.setIfInBounds_toArray, List.set_cons_zero, List.set_cons_succ])
        refine wpGr_read (o := ⟨_, _, _, _, _, _⟩) (v := .agg (sc f)) rfl (by rfl) (fun w' hw' => rd_load_sc TW (.tmp 3) rfl g1 f TW (by rfl) arr_TW (HK.out.ext hw')) ?_
        simp only [Act.put, List.setIfInBounds_toArray, List.set_cons_zero, List.set_cons_succ]
        refine wpGr_call (o := ⟨_, _, _, _, _, _⟩) rfl (by rfl) (fun K hK => ?_)
        go_simp
        refine (hdir.out w2 HP.out.pgw).mono ?_
        rintro e w3 ⟨v3, rfl, hv3, hb⟩
        refine hK _ _ hb ?_
        clear hK K
        replace HP := Lib.hid (HP.out.below hb (Nat.le_refl _))
        replace HT := Lib.hid (HT.out.below hb)
        replace HK := Lib.hid (HK.out.ext hb)
        replace HB := Lib.hid (HB.out.trans (hb.mono HB.out.size))
        clear hb
        have HV3 := Lib.hid hv3
        clear hv3
        refine wpGr_call (o := ⟨_, _, _, _, _, _⟩) rfl (by rfl) (fun K hK => ?_)
        go_simp
        refine (hrdir.out w3 HP.out).mono ?_
        rintro e w4 ⟨v4, rfl, hv4, hb⟩
        refine hK _ _ hb ?_
        clear hK K
        replace HP := Lib.hid (HP.out.below hb (Nat.le_refl _))
        replace HT := Lib.hid (HT.out.below hb)
        replace HK := Lib.hid (HK.out.ext hb)
        replace HB := Lib.hid (HB.out.trans (hb.mono HB.out.size))
        replace HV3 := Lib.hid (HV3.out.below hb (Nat.le_refl _))
        clear hb
        have HV4 := Lib.hid hv4
        clear hv4
        obtain ⟨a3, c3, rfl, hs3⟩ := HV3.out.arg
        obtain ⟨a4, c4, rfl, hs4⟩ := HV4.out.arg
        have HS3 := Lib.hid hs3
        have HS4 := Lib.hid hs4
        obtain ⟨q, hq⟩ : ∃ q, L.length = q := ⟨_, rfl⟩
        rw [hq] at hdl ⊢
        have HQ := Lib.hid hq
        clear hs3 hs4 HV3 HV4 hq
        iterate 2 (refine wpGr_read (o := ⟨_, _, _, _, _, _⟩) (v := ?_) rfl (by rfl) ?_ ?_; rotate_left; (intro w' hw'; go_simp; with_reducible rfl); simp only [Act.put, List.setIfInBounds_toArray, List.set_cons_zero, List.set_cons_succ])
        refine wpGr_done ?_
        go_wp2_with fail
        go_loopw [8] (fun i wx => ∃ j : Nat, i = .int .i64 j ∧ j ≤ q ∧ Hid (Below w4.heap.size w4 wx)) (fun i _ => q - (intOf i).toNat)
        case atStart => exact ⟨0, rfl, by omega, Below.refl _ _⟩
        case round =>
          obtain ⟨j, rfl, hj, HX⟩ := hrel
          by_cases hjl : j < q
          · obtain ⟨b3, o3, rfl, hc3⟩ := (HS3.out.below HX.out (Nat.le_refl _)) (by rw [HQ.out]; omega)
            obtain ⟨b4, o4, rfl, hc4⟩ := (HS4.out.below HX.out (Nat.le_refl _)) (by rw [HQ.out]; omega)
            have d3 := hc3 j (by rw [HQ.out]; exact hjl)
            have d4 := hc4 j (by rw [HQ.out]; exact hjl)
            have q3 : ∀ w', Ext wr.drew w' → w'.cell? ⟨b3, o3 + j, none⟩ = some (.int .i64 (ia L j)) := fun w' he => (he.cell (p := ⟨b3, o3 + j, none⟩) (block_lt_of_cell d3)).trans d3
            have q4 : ∀ w', Ext wr.drew w' → w'.cell? ⟨b4, o4 + j, none⟩ = some (.int .i64 (ia L j)) := fun w' he => (he.cell (p := ⟨b4, o4 + j, none⟩) (block_lt_of_cell d4)).trans d4
            replace HX := Lib.hid (HX.out.trans (Below.refl w4.heap.size wr).drew)
            generalize ia L j = X at *
            have i1 : (j : Int) < (q : Int) := by omega
            have e1 : (X != X) = false := by simp
            have i2 : IntKind.i64.wrap (j : Int) = (j : Int) := by rw [IntKind.wrap_i64]; omega
            clear hc3 hc4 d3 d4
            go_wp2_with fail
            refine wp_region_gr [(0, true), (1, true), (2, true), (3, true), (4, true), (5, true), (6, true), (7, true), (8, true)] (by kernel_rfl) (by kernel_rfl) (by kernel_rfl) (by kernel_rfl) (fun _ _ _ _ _ h => h) ?_
            generalize wr.drew = W1 at *
            iterate 9 (refine wpGr_read (o := ⟨_, _, _, _, _, _⟩) (v := ?_) rfl (by rfl) ?_ ?_; rotate_left; (intro w' hw'; go_simp; with_reducible rfl); simp only [Act.put, List.setIfInBounds_toArray, List.set_cons_zero, List.set_cons_succ])
            refine wpGr_done ?_
            clear q3 q4
            go_wp2
            go_roundw
            case rel => exact ⟨j + 1, by go_num, by omega, HX⟩
            case measure => simp [intOf]; omega
          · obtain rfl : j = q := by omega
            obtain ⟨W0, hW0⟩ : ∃ W0, W0 = wr := ⟨_, rfl⟩
            subst hW0
            have jl : ¬ ((j : Int) < (j : Int)) := by omega
            have hb := HX.out
            replace HP := Lib.hid (HP.out.below hb (Nat.le_refl _))
            replace HT := Lib.hid (HT.out.below hb)
            replace HK := Lib.hid (HK.out.ext hb)
            replace HB := Lib.hid (HB.out.trans (hb.mono HB.out.size))
            clear hb HX
            have hk3 := HK.out
            go_wp2_with (first | (refine wpList_load_sc rfl TW (.tmp 3) rfl g1 f TW (by rfl) arr_TW hk3 ?_))
            refine (hsl.out W0 HP.out.pgw).mono ?_
            rintro e w5 ⟨rfl, hb⟩
            replace HP := Lib.hid (HP.out.below hb (Nat.le_refl _))
            replace HT := Lib.hid (HT.out.below hb)
            replace HK := Lib.hid (HK.out.ext hb)
            replace HB := Lib.hid (HB.out.trans (hb.mono HB.out.size))
            clear hb hk3
            have hk3 := HK.out
            go_wp2_with (first | (refine wpList_load_sc rfl TW (.tmp 3) rfl g1 f TW (by rfl) arr_TW hk3 ?_))
            refine (hrsl.out w5 HP.out).mono ?_
            rintro e w6 ⟨rfl, hb⟩
            replace HP := Lib.hid (HP.out.below hb (Nat.le_refl _))
            replace HT := Lib.hid (HT.out.below hb)
            replace HK := Lib.hid (HK.out.ext hb)
            replace HB := Lib.hid (HB.out.trans (hb.mono HB.out.size))
            clear hb hk3
            go_wp2_with fail
            refine wp_region_gr [(0, true), (1, true), (3, true), (4, true), (2, false), (5, false), (6, true), (7, true), (8, true), (9, true), (10, true), (11, true), (12, true), (13, true), (14, true), (15, true), (16, true), (17, true), (18, false), (19, true), (20, true)] (by kernel_rfl) (by kernel_rfl) (by kernel_rfl) (by kernel_rfl) (fun _ _ _ _ _ h => h) ?_
            have hb : Ext w6 w6.drew := Ext.drew _
            replace HP := Lib.hid (HP.out.below hb (Nat.le_refl _))
            replace HT := Lib.hid (HT.out.below hb)
            replace HK := Lib.hid (HK.out.ext hb)
            replace HB := Lib.hid (HB.out.trans (hb.mono HB.out.size))
            clear hb
            generalize w6.drew = w7 at *
            iterate 1 (refine wpGr_read (o := ⟨_, _, _, _, _, _⟩) (v := ?_) rfl (by rfl) ?_ ?_; rotate_left; (intro w' hw'; go_simp; with_reducible rfl); simp only [Act.put, List.setIfInBounds_toArray, List.set_cons_zero, List.set_cons_succ])
            refine wpGr_read (o := ⟨_, _, _, _, _, _⟩) (v := .agg (sc f)) rfl (by rfl) (fun w' hw' => rd_load_sc TW (.tmp 3) rfl g1 f TW (by rfl) arr_TW (HK.out.ext hw')) ?_
            simp only [Act.put, List.setIfInBounds_toArray, List.set_cons_zero, List.set_cons_succ]
            iterate 1 (refine wpGr_read (o := ⟨_, _, _, _, _, _⟩) (v := ?_) rfl (by rfl) ?_ ?_; rotate_left; (intro w' hw'; go_simp; with_reducible rfl); simp only [Act.put, List.setIfInBounds_toArray, List.set_cons_zero, List.set_cons_succ])
            refine wpGr_read (o := ⟨_, _, _, _, _, _⟩) (v := .agg (sc f)) rfl (by rfl) (fun w' hw' => rd_load_sc TW (.tmp 3) rfl g1 f TW (by rfl) arr_TW (HK.out.ext hw')) ?_
            simp only [Act.put, List.setIfInBounds_toArray, List.set_cons_zero, List.set_cons_succ]
            refine wpGr_call (o := ⟨_, _, _, _, _, _⟩) rfl (by rfl) (fun K hK => ?_)
            go_simp
            refine (hcl.out w7 HP.out.pgw HT.out).mono ?_
            rintro e w8 ⟨rfl, hb⟩
            refine hK _ _ hb ?_
            clear hK K
            replace HP := Lib.hid (HP.out.below hb (Nat.le_refl _))
            replace HT := Lib.hid (HT.out.below hb)
            replace HK := Lib.hid (HK.out.ext hb)
            replace HB := Lib.hid (HB.out.trans (hb.mono HB.out.size))
            clear hb
            refine wpGr_call (o := ⟨_, _, _, _, _, _⟩) rfl (by rfl) (fun K hK => ?_)
            go_simp
            refine (hrcl.out w8 HP.out).mono ?_
            rintro e w9 ⟨rfl, hb⟩
            refine hK _ _ hb ?_
            clear hK K
            replace HP := Lib.hid (HP.out.below hb (Nat.le_refl _))
            replace HT := Lib.hid (HT.out.below hb)
            replace HK := Lib.hid (HK.out.ext hb)
            replace HB := Lib.hid (HB.out.trans (hb.mono HB.out.size))
            clear hb
            iterate 12 (refine wpGr_read (o := ⟨_, _, _, _, _, _⟩) (v := ?_) rfl (by rfl) ?_ ?_; rotate_left; (intro w' hw'; go_simp; with_reducible rfl); simp only [Act.put, List.setIfInBounds_toArray, List.set_cons_zero, List.set_cons_succ])
            refine wpGr_call (o := ⟨_, _, _, _, _, _⟩) rfl (by rfl) (fun K hK => ?_)
            go_simp
            refine (hsure.out w9 HT.out).mono ?_
            rintro e w10 ⟨rfl, hb⟩
            refine hK _ _ hb ?_
            clear hK K
            replace HB := Lib.hid (HB.out.trans (hb.mono HB.out.size))
            clear hb
            iterate 2 (refine wpGr_read (o := ⟨_, _, _, _, _, _⟩) (v := ?_) rfl (by rfl) ?_ ?_; rotate_left; (intro w' hw'; go_simp; with_reducible rfl); simp only [Act.put, List.setIfInBounds_toArray, List.set_cons_zero, List.set_cons_succ])
            refine wpGr_done ?_
            go_wp2
            go_ret
            exact ⟨rfl, HB.out⟩
end Go.Proofs.YtfjjfickbhkpaaaDoor
