/-
  ScrubClean, walked.
-/
import Derived.Test.YtfjjfickbhkpaaaDoorScPagesZ
import Derived.Test.YtfjjfickbhkpaaaDoorRefSheetZ
namespace Go.Proofs.YtfjjfickbhkpaaaDoor
open Go Go.RowKit

theorem scP_yes {f : Nat → Bool} {L : List (List Nat)} {j : Nat} (h : inB f ((j + 2 : Nat) : Int) = true) : scP f L j = pageL 1 ((pgK L j).take 504) := by unfold scP; rw [h]; rfl
theorem scP_no {f : Nat → Bool} {L : List (List Nat)} {j : Nat} (h : inB f ((j + 2 : Nat) : Int) = false) : scP f L j = ZP := by unfold scP; rw [h]; rfl
set_option maxRecDepth 100000 in
set_option maxHeartbeats 4000000 in
theorem sclean_any (a : Option Addr) (n c : Nat) (L : List (List Nat)) (f : Nat → Bool) (at_ y : Nat) (w : World) (hn : L.length = n) (hn9 : n ≤ 9223372036854775807) (hP : PgZ w a L) (ha : at_ < 256) (hy : y < 256) (hT : WorthIn w) :
    Calls Tryd.prog 4 #[.slice a n c, .agg (sc f), .agg #[.int .u8 at_, .int .u8 y]] w fun e w' => e = .returned (.bool true) ∧ Below w.heap.size w w' := by
  have HP := Lib.hid hP
  have HN := Lib.hid hn
  have HT := Lib.hid hT
  have HB8 : Hid (∀ j, j < n → B8 (pgK L j)) := fun j hj => by
    obtain ⟨_, _, _, _, _, _, _, _, hv⟩ := hP j (by rw [hn]; exact hj)
    exact hv.b8
  clear hP hn hT
  have hsure := Lib.hid (fun w1 hT => zsure_any w1 hT)
  go_enter Tryd.func4, Tryd.ntmps4
  go_wp2_with (first | (refine wpList_box_arr rfl TW (.tmp 1) rfl (sc f) (by rfl) ?_; intro g1 w1 hg1 hk1 hb1))
  have HB : Hid (Below w.heap.size w (w1.alloc (.cells #[.int .u8 at_, .int .u8 y] 35))) := hb1.alloc hb1.size _
  have HK : Hid (Blk (w1.alloc (.cells #[.int .u8 at_, .int .u8 y] 35)) g1 TW (sc f)) := hk1.ext ((Below.refl _ _).alloc (Nat.le_refl _) _)
  have hx : (w1.alloc (.cells #[.int .u8 at_, .int .u8 y] 35)).heap[w1.heap.size]? = some (.cells #[.int .u8 at_, .int .u8 y] 35 (0, 0)) := heap_new w1 35 #[.int .u8 at_, .int .u8 y]
  generalize w1.heap.size = g2 at *
  generalize w1.alloc (.cells #[.int .u8 at_, .int .u8 y] 35) = wa at *
  have hca : wa.cell? ⟨g2, 0, none⟩ = some (.int .u8 at_) := by simp [World.cell?, hx]
  have hcy : wa.cell? ⟨g2, 1, none⟩ = some (.int .u8 y) := by simp [World.cell?, hx]
  have qa : ∀ w', Ext wa.drew w' → w'.cell? ⟨g2, 0, none⟩ = some (.int .u8 at_) := fun w' he => (he.cell (p := ⟨g2, 0, none⟩) (block_lt_of_cell hca)).trans hca
  have qy : ∀ w', Ext wa.drew w' → w'.cell? ⟨g2, 1, none⟩ = some (.int .u8 y) := fun w' he => (he.cell (p := ⟨g2, 1, none⟩) (block_lt_of_cell hcy)).trans hcy
  replace HB := Lib.hid (HB.out.trans (Below.refl _ _).drew)
  replace HK := Lib.hid (HK.out.ext (Ext.drew _))
  replace HP := Lib.hid (HP.out.below HB.out (Nat.le_refl _))
  replace HT := Lib.hid (HT.out.below HB.out)
  clear hg1 hk1 hb1 hx hca hcy
  refine wp_region_gr [(0, true), (1, true), (2, true), (3, true), (4, true), (5, true)] (by kernel_rfl) (by kernel_rfl) (by kernel_rfl) (by kernel_rfl) (fun _ _ _ _ _ h => h) ?_
  generalize wa.drew = w2 at *
  iterate 6 (refine wpGr_read (o := ⟨_, _, _, _, _, _⟩) (v := ?_) rfl (by rfl) ?_ ?_; rotate_left; (intro w' hw'; go_simp; with_reducible rfl); simp only [Act.put, List.setIfInBounds_toArray, List.set_cons_zero, List.set_cons_succ])
  refine wpGr_done ?_
  clear qa qy
  go_wp2_with fail
  have HS : Hid (ScI w2 (w2.alloc (.cells #[.slice none 0 0, .slice none 0 0] PQT)) (.slice (some ⟨w2.heap.size, 0, none⟩) 2 2) f L 0 []) := ScI.start w2 f L
  go_loopw [9, 10, 11, 12, 13, 38] (fun v i _ _ _ _ wr => ∃ (k : Nat) (v0 : Value) (gs : List (Nat × Nat)), v0 = v ∧ i = .int .i64 k ∧ k ≤ n ∧ k ≤ 40 ∧ Hid (ScI w2 wr v0 f L k gs)) (fun _ i _ _ _ _ _ => n - (intOf i).toNat)
  case atStart => exact ⟨0, _, [], rfl, rfl, by omega, by omega, HS.out⟩
  case round =>
    obtain ⟨k, v, gs, rfl, rfl, hk, hk40, hS⟩ := hrel
    clear HS
    have HBr := Lib.hid hS.out.below
    by_cases hlt : k < n ∧ k < 40
    · have i1 : (k : Int) < (n : Int) := by omega
      have i2 : (k : Int) < 40 := by omega
      have i3 : IntKind.i64.wrap ((k : Int) + 2) = ((k + 2 : Nat) : Int) := by rw [IntKind.wrap_i64]; omega
      obtain ⟨g, o, ad, m, cc, rfl, hcell, hz, hv⟩ := (HP.out.below HBr.out (Nat.le_refl _)) k (by rw [HN.out]; exact hlt.1)
      have hk3 := HK.out.ext HBr.out
      have hsy := @scP_yes f L k
      have hsn := @scP_no f L k
      have hhas := Lib.hid (fun w => bhas_any f ((k + 2 : Nat) : Int) w)
      generalize inB f ((k + 2 : Nat) : Int) = D at *
      generalize k + 2 = K2 at *
      go_wp2_with (first
        | (at_make; refine wpList_make_bytes rfl _ _ 26 rfl 5 Tryd.underlying26 infoByte _ _ _ _ 512 rfl rfl rfl rfl (by omega) ?_; intro w3 hr3 hb3; have hk4 := hk3.ext hb3)
        | (refine wpList_load_sc rfl TW (.tmp 4) rfl g1 f TW (by rfl) arr_TW hk4 ?_))
      refine (hhas.out w3).mono ?_
      rintro e w4 ⟨rfl, hb4⟩
      cases hD : D with
      | false =>
        subst hD
        have hpg : PgO w4 wr.heap.size 512 (scP f L k) := by
          rw [hsn rfl]
          exact PgO.row (hr3.out.below hb4 hr3.out.lt) ZP_len ZP_b8
        have hS4 := (hS.out.ext hb3).ext hb4
        have hlt0 : ∀ x ∈ gs, x.1 < wr.heap.size := hS.out.lt
        have h0 : w2.heap.size ≤ wr.heap.size := HBr.out.size
        clear hsy hsn hk3 hk4 hcell hb3 hb4 hr3 hv hz

        obtain ⟨v5, w5, hrun, hS5⟩ := (hS4).app (g := wr.heap.size) (c := 512) hpg hlt0 h0 (by omega)
        have HS5 := Lib.hid hS5
        clear hS5
        go_wp2_with (at_builtin; refine Lib.wpList_append_run _ rfl (.tmp 56) (.tmp 58) _ _ rfl _ _ (by rfl) (by rfl) _ _ hrun ?_)
        clear hrun
        go_roundw
        case rel => exact ⟨k + 1, v5, gs ++ [(wr.heap.size, 512)], rfl, by go_num, by omega, by omega, HS5.out⟩
        case measure => simp [intOf]; omega
      | true =>
        subst hD
        have Hsc := Lib.hid (hsy rfl)
        clear hsy hsn
        obtain ⟨a', c', e9, hsrc, hmc, hcm⟩ := hv.ex
        cases e9
        have hb8 := hv.b8.take' 504
        have hsrc4 := (hsrc.below hb3 (Nat.le_refl _)).below hb4 (Nat.le_refl _)
        have hcell4 : w4.cell? ⟨g, o + k, none⟩ = some (.slice ad (pgK L k).length cc) := (hb4.cell (p := ⟨g, o + k, none⟩) (Nat.lt_of_lt_of_le (block_lt_of_cell hcell) hb3.size)).trans ((hb3.cell (p := ⟨g, o + k, none⟩) (block_lt_of_cell hcell)).trans hcell)
        have HS4 : Hid (ScI w2 w4.drew v f L k gs) := ((hS.out.ext hb3).ext hb4).ext (Ext.drew _)
        have hsrc : Src w4.drew ad ((pgK L k).take 504) := by
          intro h0
          rw [List.length_take] at h0
          obtain ⟨b, q, e, hc⟩ := hsrc4 (show 0 < (pgK L k).length by omega)
          exact ⟨b, q, e, hc.start 504⟩
        have qc : ∀ w', Ext w4.drew w' → w'.cell? ⟨g, o + k, none⟩ = some (.slice ad (pgK L k).length cc) := fun w' he => (he.cell (p := ⟨g, o + k, none⟩) (block_lt_of_cell hcell4)).trans hcell4
        obtain ⟨M, hM⟩ : ∃ M, min (pgK L k).length 504 = M := ⟨_, rfl⟩
        have hM2 : ((pgK L k).take 504).length = M := by rw [List.length_take, Nat.min_comm]; exact hM
        have e4 : min ((pgK L k).length : Int) 504 = (M : Int) := by omega
        have hM5 : M ≤ 504 := by omega
        have hMc : M ≤ cc := by have : (pgK L k).length ≤ cc := hmc; omega
        have hMi : (M : Int) ≤ (cc : Int) := by omega
        have hM0 : (0 : Int) ≤ (M : Int) := by omega
        have hcc9 : cc ≤ 140737488355328 := hcm
        obtain ⟨W4, hW4⟩ : ∃ W, w4.drew = W := ⟨_, rfl⟩
        rw [hW4] at qc HS4 hsrc
        have HW4 := Lib.hid hW4
        have hmc' : (pgK L k).length ≤ cc := hmc
        have hlm : ∀ z, (pgK L k).getD z 0 = (pgK L k).getD z 0 := fun _ => rfl
        clear hsrc4 hcell4 hW4 hb3 hb4 hk3 hk4 hr3 hcell hv hlm hcm hmc
        generalize hlL : (pgK L k).length = LL at *
        clear hM
        cases ad with
        | none =>
          obtain rfl : cc = 0 := hz rfl
          obtain rfl : M = 0 := by omega
          obtain rfl : LL = 0 := by omega
          have e40 : min (0 : Int) 504 = 0 := by omega
          clear hz
          have Hseal := Lib.hid (refSeal_in 1 none 0 0 ((pgK L k).take 504) hM2 W4 (by omega) (by omega) (by omega) hb8 (fun _ => rfl) hsrc)
          clear hsrc hb8
          go_wp2_with fail
          refine wp_region_gr [(0, true), (1, true), (2, true), (3, true), (4, true), (5, true), (6, true), (7, true), (8, true), (9, true), (10, true), (11, false), (12, true), (13, true), (14, true), (15, true), (16, true)] (by kernel_rfl) (by kernel_rfl) (by kernel_rfl) (by kernel_rfl) (fun _ _ _ _ _ h => h) ?_
          rw [HW4.out]
          iterate 11 (refine wpGr_read (o := ⟨_, _, _, _, _, _⟩) (v := ?_) rfl (by rfl) ?_ ?_; rotate_left; (intro w' hw'; go_simp; with_reducible rfl); simp only [Act.put, List.setIfInBounds_toArray, List.set_cons_zero, List.set_cons_succ])
          refine wpGr_call (o := ⟨_, _, _, _, _, _⟩) rfl (by rfl) (fun K hK => ?_)
          go_simp
          refine (Hseal.out).mono ?_
          rintro e w5 ⟨u, rfl, hu, hb⟩
          refine hK _ _ hb ?_
          clear hK K qc
          iterate 5 (refine wpGr_read (o := ⟨_, _, _, _, _, _⟩) (v := ?_) rfl (by rfl) ?_ ?_; rotate_left; (intro w' hw'; go_simp; with_reducible rfl); simp only [Act.put, List.setIfInBounds_toArray, List.set_cons_zero, List.set_cons_succ])
          refine wpGr_done ?_
          obtain ⟨g5, c5, rfl, _, _, hg5, _⟩ := own_form hu (by rw [pageL_length (take504 _)]; omega)
          rw [pageL_length (take504 _)] at hu ⊢
          have hpg : PgO w5 g5 c5 (scP f L k) := by
            rw [Hsc.out]
            exact PgO.own hu (pageL_length (take504 _)) (pageL_b8 (by omega) (take504 _) (HB8.out k hlt.1 |>.take' 504))
          have hS5 := HS4.out.ext hb
          have hlt0 : ∀ x ∈ gs, x.1 < g5 := fun x hx => Nat.lt_of_lt_of_le (HS4.out.lt x hx) hg5
          have h0 : w2.heap.size ≤ g5 := Nat.le_trans HS4.out.below.size hg5
          clear hu hb

          obtain ⟨v6, w6, hrun, hS6⟩ := (hS5).app (g := g5) (c := c5) hpg hlt0 h0 (by omega)
          have HS6 := Lib.hid hS6
          clear hS6
          go_wp2_with (at_builtin; refine Lib.wpList_append_run _ rfl (.tmp 56) (.tmp 58) _ _ rfl _ _ (by rfl) (by rfl) _ _ hrun ?_)
          clear hrun
          go_roundw
          case rel => exact ⟨k + 1, v6, gs ++ [(g5, c5)], rfl, by go_num, by omega, by omega, HS6.out⟩
          case measure => simp [intOf]; omega
        | some x =>
          clear hz
          have Hseal := Lib.hid (refSeal_in 1 (some x) M cc ((pgK L k).take 504) hM2 W4 (by omega) (by omega) (by omega) hb8 (fun h => by cases h) hsrc)
          clear hsrc hb8
          go_wp2_with fail
          refine wp_region_gr [(0, true), (1, true), (2, true), (3, true), (4, true), (5, true), (6, true), (7, true), (8, true), (9, true), (10, true), (11, false), (12, true), (13, true), (14, true), (15, true), (16, true)] (by kernel_rfl) (by kernel_rfl) (by kernel_rfl) (by kernel_rfl) (fun _ _ _ _ _ h => h) ?_
          rw [HW4.out]
          iterate 11 (refine wpGr_read (o := ⟨_, _, _, _, _, _⟩) (v := ?_) rfl (by rfl) ?_ ?_; rotate_left; (intro w' hw'; go_simp; with_reducible rfl); simp only [Act.put, List.setIfInBounds_toArray, List.set_cons_zero, List.set_cons_succ])
          refine wpGr_call (o := ⟨_, _, _, _, _, _⟩) rfl (by rfl) (fun K hK => ?_)
          go_simp
          refine (Hseal.out).mono ?_
          rintro e w5 ⟨u, rfl, hu, hb⟩
          refine hK _ _ hb ?_
          clear hK K qc
          iterate 5 (refine wpGr_read (o := ⟨_, _, _, _, _, _⟩) (v := ?_) rfl (by rfl) ?_ ?_; rotate_left; (intro w' hw'; go_simp; with_reducible rfl); simp only [Act.put, List.setIfInBounds_toArray, List.set_cons_zero, List.set_cons_succ])
          refine wpGr_done ?_
          obtain ⟨g5, c5, rfl, _, _, hg5, _⟩ := own_form hu (by rw [pageL_length (take504 _)]; omega)
          rw [pageL_length (take504 _)] at hu ⊢
          have hpg : PgO w5 g5 c5 (scP f L k) := by
            rw [Hsc.out]
            exact PgO.own hu (pageL_length (take504 _)) (pageL_b8 (by omega) (take504 _) (HB8.out k hlt.1 |>.take' 504))
          have hS5 := HS4.out.ext hb
          have hlt0 : ∀ x ∈ gs, x.1 < g5 := fun x hx => Nat.lt_of_lt_of_le (HS4.out.lt x hx) hg5
          have h0 : w2.heap.size ≤ g5 := Nat.le_trans HS4.out.below.size hg5
          clear hu hb

          obtain ⟨v6, w6, hrun, hS6⟩ := (hS5).app (g := g5) (c := c5) hpg hlt0 h0 (by omega)
          have HS6 := Lib.hid hS6
          clear hS6
          go_wp2_with (at_builtin; refine Lib.wpList_append_run _ rfl (.tmp 56) (.tmp 58) _ _ rfl _ _ (by rfl) (by rfl) _ _ hrun ?_)
          clear hrun
          go_roundw
          case rel => exact ⟨k + 1, v6, gs ++ [(g5, c5)], rfl, by go_num, by omega, by omega, HS6.out⟩
          case measure => simp [intOf]; omega
    · have HKb := HK
      have HTb := HT
      have HWb := HB
      by_cases hlt2 : k < n
      · have i1 : (k : Int) < (n : Int) := by omega
        have i2 : ¬ (k : Int) < 40 := by omega
        clear hlt2
        have HS := hS
        have HW : Hid (Below w.heap.size w wr) := HB.out.trans (HBr.out.mono HB.out.size)
        replace HK := Lib.hid (HK.out.ext HBr.out)
        replace HT := Lib.hid (HT.out.below HBr.out)
        obtain ⟨hd1, hd2, hd3⟩ := sc_clean f L k
        obtain ⟨ga, ca, rfl, _, _⟩ := hS.out.pgw
        have hPW := Lib.hid (fun (wx : World) (hS : ScI w2 wx (.slice (some ⟨ga, 0, none⟩) (k + 2) ca) f L k gs) => by
          obtain ⟨ga', ca', e, _, h⟩ := hS.pgw
          cases e
          exact (h : PgW wx (some ⟨ga, 0, none⟩) (scPs f L k)))
        have hsl := Lib.hid (fun wx h => slack_any (some ⟨ga, 0, none⟩) (k + 2) ca (scPs f L k) f (scPs_len f L k) wx (by omega) h)
        have hcl := Lib.hid (fun wx h hT => clean_any (some ⟨ga, 0, none⟩) (k + 2) ca (scPs f L k) f (scPs_len f L k) wx (by omega) h hT)
        have hdi := Lib.hid (fun wx h => dirty_any (some ⟨ga, 0, none⟩) (k + 2) ca (scPs f L k) f (scPs_len f L k) wx (by omega) h)
        rw [hd1] at hdi
        rw [hd2] at hcl
        rw [hd3] at hsl
        have hst := Lib.hid (fun (wx : World) (N0 : Nat) (h : ScI w2 wx (.slice (some ⟨ga, 0, none⟩) (k + 2) ca) f L k gs) (h2 : 2 ≤ N0) (hn : N0 < k + 2) (hu : inB f (N0 : Nat) = false) => ScI.store (y := y) (b := y) h rfl h2 hn hu (by omega) hy)
        have hcl2 := Lib.hid (fun (wx : World) (N0 : Nat) (h : PgW wx (some ⟨ga, 0, none⟩) ((scPs f L k).set N0 (ZP.set y y))) (hT : WorthIn wx) => clean_any (some ⟨ga, 0, none⟩) (k + 2) ca ((scPs f L k).set N0 (ZP.set y y)) f (by rw [List.length_set, scPs_len]) wx (by omega) h hT)
        have hdi2 := Lib.hid (fun (wx : World) (N0 : Nat) (h : PgW wx (some ⟨ga, 0, none⟩) ((scPs f L k).set N0 (ZP.set y y))) => dirty_any (some ⟨ga, 0, none⟩) (k + 2) ca ((scPs f L k).set N0 (ZP.set y y)) f (by rw [List.length_set, scPs_len]) wx (by omega) h)
        have hdd := Lib.hid (fun (N0 : Nat) (h2 : 2 ≤ N0) (hn : N0 < k + 2) (hu : inB f (N0 : Nat) = false) (h0 : y ≠ 0) => sc_dirty f L k N0 y y h2 hn hu (by omega) h0)
        obtain ⟨Q, hQ⟩ : ∃ Q, max 1 k = Q := ⟨_, rfl⟩
        obtain ⟨r, hr⟩ : ∃ r, at_ % Q = r := ⟨_, rfl⟩
        obtain ⟨N0, hN0⟩ : ∃ N0, 2 + r = N0 := ⟨_, rfl⟩
        have hQ0 : 0 < Q := by omega
        have hrQ : r < Q := by rw [← hr]; exact Nat.mod_lt _ hQ0
        have e1 : IntKind.i64.wrap (((k + 2 : Nat) : Int) - 2) = (k : Int) := by rw [IntKind.wrap_i64]; omega
        have e2 : max (1 : Int) (k : Int) = (Q : Int) := by omega
        have e3 : (at_ : Int).tmod (Q : Int) = (r : Int) := by
          rw [Int.tmod_eq_emod_of_nonneg (by omega)]; omega
        have e4 : IntKind.i64.wrap (2 + (r : Int)) = (N0 : Int) := by rw [IntKind.wrap_i64]; omega
        have e5 : IntKind.i64.wrap (at_ : Int) = (at_ : Int) := by rw [IntKind.wrap_i64]; omega
        have e6 : IntKind.i64.wrap (y : Int) = (y : Int) := by rw [IntKind.wrap_i64]; omega
        have e7 : ¬ ((Q : Int) = 0) := by omega
        have hN2 : 2 ≤ N0 := by omega
        have hNk : k = 0 ∧ N0 = k + 2 ∨ 0 < k ∧ N0 < k + 2 := by omega
        have hk2 : k + 2 ≤ 42 := by omega
        have HK0 := Lib.hid (show k + 2 = k + 2 from rfl)
        generalize slA f (scPs f L k) (k + 2) = SA at *
        obtain ⟨K2, hK2⟩ : ∃ K2, k + 2 = K2 := ⟨_, rfl⟩
        rw [hK2] at e1 hNk hk2 hsl hcl hdi hPW hst hcl2 hdi2 hdd HS ⊢
        clear hd1 hd2 hd3 hS hQ hr hN0 hrQ HBr HB HP HN HB8 HK0 hk hk40 hlt
        have hk3 := HK.out
        go_wp2_with (first | (refine wpList_load_sc rfl TW (.tmp 4) rfl g1 f TW (by rfl) arr_TW hk3 ?_))
        refine (hsl.out wr (hPW.out wr HS.out)).mono ?_
        rintro e w5 ⟨rfl, hb⟩
        replace HS := Lib.hid (HS.out.ext hb)
        replace HT := Lib.hid (HT.out.below hb)
        replace HK := Lib.hid (HK.out.ext hb)
        replace HW := Lib.hid (HW.out.trans (hb.mono HW.out.size))

        clear hb hk3 hsl
        have hk3 := HK.out
        go_wp2_with (first | (refine wpList_load_sc rfl TW (.tmp 4) rfl g1 f TW (by rfl) arr_TW hk3 ?_))
        refine (hcl.out w5 (hPW.out w5 HS.out) HT.out).mono ?_
        rintro e w6 ⟨rfl, hb⟩
        replace HS := Lib.hid (HS.out.ext hb)
        replace HT := Lib.hid (HT.out.below hb)
        replace HK := Lib.hid (HK.out.ext hb)
        replace HW := Lib.hid (HW.out.trans (hb.mono HW.out.size))

        clear hb hk3 hcl
        have hk3 := HK.out
        go_wp2_with (first | (refine wpList_load_when (by rfl) TW (.tmp 4) rfl g1 f TW (by rfl) arr_TW hk3 ?_))
        refine (hdi.out w6 (hPW.out w6 HS.out)).mono ?_
        rintro e w7 ⟨v7, rfl, hv7, hb⟩
        replace HS := Lib.hid (HS.out.ext hb)
        replace HT := Lib.hid (HT.out.below hb)
        replace HK := Lib.hid (HK.out.ext hb)
        replace HW := Lib.hid (HW.out.trans (hb.mono HW.out.size))

        obtain ⟨a7, c7, rfl, _⟩ := hv7.arg
        clear hb hk3 hdi hv7
        rcases hNk with ⟨h0, h1⟩ | ⟨h0, h1⟩
        · have j1 : decide (((K2 : Nat) : Int) ≤ (N0 : Int)) = true := decide_eq_true (by omega)
          have j2 : decide (K2 ≤ N0) = true := decide_eq_true (by omega)
          clear hst hdi2 hcl2 hdd h0 h1
          go_wp2_with fail
          refine (hsure.out w7 HT.out).mono ?_
          rintro e wz ⟨rfl, hb⟩
          replace HW := Lib.hid (HW.out.trans (hb.mono HW.out.size))
          clear hb
          go_wp2
          go_ret
          exact ⟨rfl, HW.out⟩
        · have j1 : decide (((K2 : Nat) : Int) ≤ (N0 : Int)) = false := decide_eq_false (by omega)
          have j2 : decide (K2 ≤ N0) = false := decide_eq_false (by omega)
          have hst1 := fun (wx : World) h hu => hst.out wx N0 h hN2 h1 hu
          have hdd1 := fun hu h0 => hdd.out N0 hN2 h1 hu h0
          have hhas := Lib.hid (fun w => bhas_any f (N0 : Int) w)
          have j3 : (N0 : Int) < (K2 : Int) := by omega
          have j4 : (0 : Int) ≤ (N0 : Int) := by omega
          have j5 : (y : Int) < 512 := by omega
          generalize inB f (N0 : Int) = D at *
          have Hst := Lib.hid hst1
          have Hdd := Lib.hid hdd1
          clear hst hdd hst1 hdd1 h0 h1
          have hk3 := HK.out
          go_wp2_with (first | (refine wpList_load_when (by rfl) TW (.tmp 4) rfl g1 f TW (by rfl) arr_TW hk3 ?_))
          refine (hhas.out w7).mono ?_
          rintro e w8 ⟨rfl, hb⟩
          replace HS := Lib.hid (HS.out.ext hb)
          replace HT := Lib.hid (HT.out.below hb)
          replace HK := Lib.hid (HK.out.ext hb)
          replace HW := Lib.hid (HW.out.trans (hb.mono HW.out.size))

          clear hb hk3 hhas
          cases hD : D with
          | true =>
            subst hD
            clear Hst Hdd hdi2 hcl2
            go_wp2_with fail
            refine (hsure.out w8 HT.out).mono ?_
            rintro e wz ⟨rfl, hb⟩
            replace HW := Lib.hid (HW.out.trans (hb.mono HW.out.size))
            clear hb
            go_wp2
            go_ret
            exact ⟨rfl, HW.out⟩
          | false =>
            subst hD
            by_cases hy0 : y = 0
            · subst hy0
              clear Hst Hdd hdi2 hcl2
              go_wp2_with fail
              refine (hsure.out w8 HT.out).mono ?_
              rintro e wz ⟨rfl, hb⟩
              replace HW := Lib.hid (HW.out.trans (hb.mono HW.out.size))
              clear hb
              go_wp2
              go_ret
              exact ⟨rfl, HW.out⟩
            · have j6 : ((y : Int) == 0) = false := beq_eq_false_iff_ne.2 (by omega)
              obtain ⟨gp, cp, hc1, hc2, hf2, hgp, hgl, hpw⟩ := Hst.out w8 HS.out rfl
              obtain ⟨hd4, hd5⟩ := Hdd.out rfl hy0
              have HPW := Lib.hid hpw
              have hbs : Below w2.heap.size w2 (w8.setCell ⟨gp, y, none⟩ (.int .u8 y)) := HS.out.below.setCell hgp _
              have HK8 : Hid (Blk (w8.setCell ⟨gp, y, none⟩ (.int .u8 y)) g1 TW (sc f)) := HKb.out.ext hbs
              have HT8 : Hid (WorthIn (w8.setCell ⟨gp, y, none⟩ (.int .u8 y))) := HTb.out.below hbs
              have HW8 : Hid (Below w.heap.size w (w8.setCell ⟨gp, y, none⟩ (.int .u8 y))) := HWb.out.trans (hbs.mono HWb.out.size)
              have hdi3 := hdi2.out (w8.setCell ⟨gp, y, none⟩ (.int .u8 y)) N0 hpw
              rw [hd4] at hdi3
              have hcl3 := Lib.hid (fun wx => hcl2.out wx N0)
              rw [hd5] at hcl3
              have HD3 := Lib.hid hdi3
              clear hbs hpw hgp hgl Hst Hdd hdi2 hcl2 hd4 hd5 hdi3 hy0 HS HK HT HW
              have hk3 := HK8.out
              go_wp2_with (first | (refine wpList_load_sc rfl TW (.tmp 4) rfl g1 f TW (by rfl) arr_TW hk3 ?_))
              refine HD3.out.mono ?_
              rintro e w9 ⟨v9, rfl, hv9, hb⟩
              replace HPW := Lib.hid (HPW.out.below hb (Nat.le_refl _))
              replace HK8 := Lib.hid (HK8.out.ext hb)
              replace HT8 := Lib.hid (HT8.out.below hb)
              replace HW8 := Lib.hid (HW8.out.trans (hb.mono HW8.out.size))
              obtain ⟨a9, c9, rfl, hs9⟩ := hv9.arg
              obtain ⟨g9, o9, rfl, hc9⟩ := hs9 (by simp)
              have h9 : w9.cell? ⟨g9, o9 + 0, none⟩ = some (.int .i64 (N0 : Int)) := hc9 0 (by simp)
              rw [Nat.add_zero] at h9
              clear hb hk3 HD3 hv9 hs9 hc9 hc1 hc2 hf2
              have hk3 := HK8.out
              go_wp2_with (first | (refine wpList_load_when (by rfl) TW (.tmp 4) rfl g1 f TW (by rfl) arr_TW hk3 ?_))
              refine (hcl3.out w9 HPW.out HT8.out).mono ?_
              rintro e w10 ⟨rfl, hb⟩
              replace HT8 := Lib.hid (HT8.out.below hb)
              replace HW8 := Lib.hid (HW8.out.trans (hb.mono HW8.out.size))
              clear hb hk3 hcl3 h9 HPW HK8
              go_wp2_with fail
              refine (hsure.out w10 HT8.out).mono ?_
              rintro e wz ⟨rfl, hb⟩
              replace HW8 := Lib.hid (HW8.out.trans (hb.mono HW8.out.size))
              clear hb
              go_wp2
              go_ret
              exact ⟨rfl, HW8.out⟩
      · have i1 : ¬ (k : Int) < (n : Int) := by omega
        clear hlt2
        have HS := hS
        have HW : Hid (Below w.heap.size w wr) := HB.out.trans (HBr.out.mono HB.out.size)
        replace HK := Lib.hid (HK.out.ext HBr.out)
        replace HT := Lib.hid (HT.out.below HBr.out)
        obtain ⟨hd1, hd2, hd3⟩ := sc_clean f L k
        obtain ⟨ga, ca, rfl, _, _⟩ := hS.out.pgw
        have hPW := Lib.hid (fun (wx : World) (hS : ScI w2 wx (.slice (some ⟨ga, 0, none⟩) (k + 2) ca) f L k gs) => by
          obtain ⟨ga', ca', e, _, h⟩ := hS.pgw
          cases e
          exact (h : PgW wx (some ⟨ga, 0, none⟩) (scPs f L k)))
        have hsl := Lib.hid (fun wx h => slack_any (some ⟨ga, 0, none⟩) (k + 2) ca (scPs f L k) f (scPs_len f L k) wx (by omega) h)
        have hcl := Lib.hid (fun wx h hT => clean_any (some ⟨ga, 0, none⟩) (k + 2) ca (scPs f L k) f (scPs_len f L k) wx (by omega) h hT)
        have hdi := Lib.hid (fun wx h => dirty_any (some ⟨ga, 0, none⟩) (k + 2) ca (scPs f L k) f (scPs_len f L k) wx (by omega) h)
        rw [hd1] at hdi
        rw [hd2] at hcl
        rw [hd3] at hsl
        have hst := Lib.hid (fun (wx : World) (N0 : Nat) (h : ScI w2 wx (.slice (some ⟨ga, 0, none⟩) (k + 2) ca) f L k gs) (h2 : 2 ≤ N0) (hn : N0 < k + 2) (hu : inB f (N0 : Nat) = false) => ScI.store (y := y) (b := y) h rfl h2 hn hu (by omega) hy)
        have hcl2 := Lib.hid (fun (wx : World) (N0 : Nat) (h : PgW wx (some ⟨ga, 0, none⟩) ((scPs f L k).set N0 (ZP.set y y))) (hT : WorthIn wx) => clean_any (some ⟨ga, 0, none⟩) (k + 2) ca ((scPs f L k).set N0 (ZP.set y y)) f (by rw [List.length_set, scPs_len]) wx (by omega) h hT)
        have hdi2 := Lib.hid (fun (wx : World) (N0 : Nat) (h : PgW wx (some ⟨ga, 0, none⟩) ((scPs f L k).set N0 (ZP.set y y))) => dirty_any (some ⟨ga, 0, none⟩) (k + 2) ca ((scPs f L k).set N0 (ZP.set y y)) f (by rw [List.length_set, scPs_len]) wx (by omega) h)
        have hdd := Lib.hid (fun (N0 : Nat) (h2 : 2 ≤ N0) (hn : N0 < k + 2) (hu : inB f (N0 : Nat) = false) (h0 : y ≠ 0) => sc_dirty f L k N0 y y h2 hn hu (by omega) h0)
        obtain ⟨Q, hQ⟩ : ∃ Q, max 1 k = Q := ⟨_, rfl⟩
        obtain ⟨r, hr⟩ : ∃ r, at_ % Q = r := ⟨_, rfl⟩
        obtain ⟨N0, hN0⟩ : ∃ N0, 2 + r = N0 := ⟨_, rfl⟩
        have hQ0 : 0 < Q := by omega
        have hrQ : r < Q := by rw [← hr]; exact Nat.mod_lt _ hQ0
        have e1 : IntKind.i64.wrap (((k + 2 : Nat) : Int) - 2) = (k : Int) := by rw [IntKind.wrap_i64]; omega
        have e2 : max (1 : Int) (k : Int) = (Q : Int) := by omega
        have e3 : (at_ : Int).tmod (Q : Int) = (r : Int) := by
          rw [Int.tmod_eq_emod_of_nonneg (by omega)]; omega
        have e4 : IntKind.i64.wrap (2 + (r : Int)) = (N0 : Int) := by rw [IntKind.wrap_i64]; omega
        have e5 : IntKind.i64.wrap (at_ : Int) = (at_ : Int) := by rw [IntKind.wrap_i64]; omega
        have e6 : IntKind.i64.wrap (y : Int) = (y : Int) := by rw [IntKind.wrap_i64]; omega
        have e7 : ¬ ((Q : Int) = 0) := by omega
        have hN2 : 2 ≤ N0 := by omega
        have hNk : k = 0 ∧ N0 = k + 2 ∨ 0 < k ∧ N0 < k + 2 := by omega
        have hk2 : k + 2 ≤ 42 := by omega
        have HK0 := Lib.hid (show k + 2 = k + 2 from rfl)
        generalize slA f (scPs f L k) (k + 2) = SA at *
        obtain ⟨K2, hK2⟩ : ∃ K2, k + 2 = K2 := ⟨_, rfl⟩
        rw [hK2] at e1 hNk hk2 hsl hcl hdi hPW hst hcl2 hdi2 hdd HS ⊢
        clear hd1 hd2 hd3 hS hQ hr hN0 hrQ HBr HB HP HN HB8 HK0 hk hk40 hlt
        have hk3 := HK.out
        go_wp2_with (first | (refine wpList_load_sc rfl TW (.tmp 4) rfl g1 f TW (by rfl) arr_TW hk3 ?_))
        refine (hsl.out wr (hPW.out wr HS.out)).mono ?_
        rintro e w5 ⟨rfl, hb⟩
        replace HS := Lib.hid (HS.out.ext hb)
        replace HT := Lib.hid (HT.out.below hb)
        replace HK := Lib.hid (HK.out.ext hb)
        replace HW := Lib.hid (HW.out.trans (hb.mono HW.out.size))

        clear hb hk3 hsl
        have hk3 := HK.out
        go_wp2_with (first | (refine wpList_load_sc rfl TW (.tmp 4) rfl g1 f TW (by rfl) arr_TW hk3 ?_))
        refine (hcl.out w5 (hPW.out w5 HS.out) HT.out).mono ?_
        rintro e w6 ⟨rfl, hb⟩
        replace HS := Lib.hid (HS.out.ext hb)
        replace HT := Lib.hid (HT.out.below hb)
        replace HK := Lib.hid (HK.out.ext hb)
        replace HW := Lib.hid (HW.out.trans (hb.mono HW.out.size))

        clear hb hk3 hcl
        have hk3 := HK.out
        go_wp2_with (first | (refine wpList_load_when (by rfl) TW (.tmp 4) rfl g1 f TW (by rfl) arr_TW hk3 ?_))
        refine (hdi.out w6 (hPW.out w6 HS.out)).mono ?_
        rintro e w7 ⟨v7, rfl, hv7, hb⟩
        replace HS := Lib.hid (HS.out.ext hb)
        replace HT := Lib.hid (HT.out.below hb)
        replace HK := Lib.hid (HK.out.ext hb)
        replace HW := Lib.hid (HW.out.trans (hb.mono HW.out.size))

        obtain ⟨a7, c7, rfl, _⟩ := hv7.arg
        clear hb hk3 hdi hv7
        rcases hNk with ⟨h0, h1⟩ | ⟨h0, h1⟩
        · have j1 : decide (((K2 : Nat) : Int) ≤ (N0 : Int)) = true := decide_eq_true (by omega)
          have j2 : decide (K2 ≤ N0) = true := decide_eq_true (by omega)
          clear hst hdi2 hcl2 hdd h0 h1
          go_wp2_with fail
          refine (hsure.out w7 HT.out).mono ?_
          rintro e wz ⟨rfl, hb⟩
          replace HW := Lib.hid (HW.out.trans (hb.mono HW.out.size))
          clear hb
          go_wp2
          go_ret
          exact ⟨rfl, HW.out⟩
        · have j1 : decide (((K2 : Nat) : Int) ≤ (N0 : Int)) = false := decide_eq_false (by omega)
          have j2 : decide (K2 ≤ N0) = false := decide_eq_false (by omega)
          have hst1 := fun (wx : World) h hu => hst.out wx N0 h hN2 h1 hu
          have hdd1 := fun hu h0 => hdd.out N0 hN2 h1 hu h0
          have hhas := Lib.hid (fun w => bhas_any f (N0 : Int) w)
          have j3 : (N0 : Int) < (K2 : Int) := by omega
          have j4 : (0 : Int) ≤ (N0 : Int) := by omega
          have j5 : (y : Int) < 512 := by omega
          generalize inB f (N0 : Int) = D at *
          have Hst := Lib.hid hst1
          have Hdd := Lib.hid hdd1
          clear hst hdd hst1 hdd1 h0 h1
          have hk3 := HK.out
          go_wp2_with (first | (refine wpList_load_when (by rfl) TW (.tmp 4) rfl g1 f TW (by rfl) arr_TW hk3 ?_))
          refine (hhas.out w7).mono ?_
          rintro e w8 ⟨rfl, hb⟩
          replace HS := Lib.hid (HS.out.ext hb)
          replace HT := Lib.hid (HT.out.below hb)
          replace HK := Lib.hid (HK.out.ext hb)
          replace HW := Lib.hid (HW.out.trans (hb.mono HW.out.size))

          clear hb hk3 hhas
          cases hD : D with
          | true =>
            subst hD
            clear Hst Hdd hdi2 hcl2
            go_wp2_with fail
            refine (hsure.out w8 HT.out).mono ?_
            rintro e wz ⟨rfl, hb⟩
            replace HW := Lib.hid (HW.out.trans (hb.mono HW.out.size))
            clear hb
            go_wp2
            go_ret
            exact ⟨rfl, HW.out⟩
          | false =>
            subst hD
            by_cases hy0 : y = 0
            · subst hy0
              clear Hst Hdd hdi2 hcl2
              go_wp2_with fail
              refine (hsure.out w8 HT.out).mono ?_
              rintro e wz ⟨rfl, hb⟩
              replace HW := Lib.hid (HW.out.trans (hb.mono HW.out.size))
              clear hb
              go_wp2
              go_ret
              exact ⟨rfl, HW.out⟩
            · have j6 : ((y : Int) == 0) = false := beq_eq_false_iff_ne.2 (by omega)
              obtain ⟨gp, cp, hc1, hc2, hf2, hgp, hgl, hpw⟩ := Hst.out w8 HS.out rfl
              obtain ⟨hd4, hd5⟩ := Hdd.out rfl hy0
              have HPW := Lib.hid hpw
              have hbs : Below w2.heap.size w2 (w8.setCell ⟨gp, y, none⟩ (.int .u8 y)) := HS.out.below.setCell hgp _
              have HK8 : Hid (Blk (w8.setCell ⟨gp, y, none⟩ (.int .u8 y)) g1 TW (sc f)) := HKb.out.ext hbs
              have HT8 : Hid (WorthIn (w8.setCell ⟨gp, y, none⟩ (.int .u8 y))) := HTb.out.below hbs
              have HW8 : Hid (Below w.heap.size w (w8.setCell ⟨gp, y, none⟩ (.int .u8 y))) := HWb.out.trans (hbs.mono HWb.out.size)
              have hdi3 := hdi2.out (w8.setCell ⟨gp, y, none⟩ (.int .u8 y)) N0 hpw
              rw [hd4] at hdi3
              have hcl3 := Lib.hid (fun wx => hcl2.out wx N0)
              rw [hd5] at hcl3
              have HD3 := Lib.hid hdi3
              clear hbs hpw hgp hgl Hst Hdd hdi2 hcl2 hd4 hd5 hdi3 hy0 HS HK HT HW
              have hk3 := HK8.out
              go_wp2_with (first | (refine wpList_load_sc rfl TW (.tmp 4) rfl g1 f TW (by rfl) arr_TW hk3 ?_))
              refine HD3.out.mono ?_
              rintro e w9 ⟨v9, rfl, hv9, hb⟩
              replace HPW := Lib.hid (HPW.out.below hb (Nat.le_refl _))
              replace HK8 := Lib.hid (HK8.out.ext hb)
              replace HT8 := Lib.hid (HT8.out.below hb)
              replace HW8 := Lib.hid (HW8.out.trans (hb.mono HW8.out.size))
              obtain ⟨a9, c9, rfl, hs9⟩ := hv9.arg
              obtain ⟨g9, o9, rfl, hc9⟩ := hs9 (by simp)
              have h9 : w9.cell? ⟨g9, o9 + 0, none⟩ = some (.int .i64 (N0 : Int)) := hc9 0 (by simp)
              rw [Nat.add_zero] at h9
              clear hb hk3 HD3 hv9 hs9 hc9 hc1 hc2 hf2
              have hk3 := HK8.out
              go_wp2_with (first | (refine wpList_load_when (by rfl) TW (.tmp 4) rfl g1 f TW (by rfl) arr_TW hk3 ?_))
              refine (hcl3.out w9 HPW.out HT8.out).mono ?_
              rintro e w10 ⟨rfl, hb⟩
              replace HT8 := Lib.hid (HT8.out.below hb)
              replace HW8 := Lib.hid (HW8.out.trans (hb.mono HW8.out.size))
              clear hb hk3 hcl3 h9 HPW HK8
              go_wp2_with fail
              refine (hsure.out w10 HT8.out).mono ?_
              rintro e wz ⟨rfl, hb⟩
              replace HW8 := Lib.hid (HW8.out.trans (hb.mono HW8.out.size))
              clear hb
              go_wp2
              go_ret
              exact ⟨rfl, HW8.out⟩
end Go.Proofs.YtfjjfickbhkpaaaDoor
