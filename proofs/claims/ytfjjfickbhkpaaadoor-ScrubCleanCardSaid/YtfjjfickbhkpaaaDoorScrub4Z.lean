/-
  The document's Dirty, Clean, Slack of layer 22.
  The document's Clean, Slack of layer 22.
-/
import Derived.Test.YtfjjfickbhkpaaaDoorScrub1Z
import Derived.Test.YtfjjfickbhkpaaaDoorRefBZ
import Derived.Test.YtfjjfickbhkpaaaDoorRefOpenZ
namespace Go.Proofs.YtfjjfickbhkpaaaDoor
open Go Go.RowKit

theorem bc_yes {w : World} {g : Nat} {t : TypeId} {f : Nat → Bool} (h : Blk w g t (bc f)) (k : Nat) (hk : k < 1024) : w.cell? ⟨g, k, none⟩ = some (.bool (f k)) := h.yes k hk
set_option maxRecDepth 100000 in
theorem rdirty_any (a : Option Addr) (n c : Nat) (P : List (List Nat)) (f : Nat → Bool) (hn : P.length = n) (w : World) (hl : n ≤ 1000) (hP : PgIn w a P) :
    Calls Tryd.prog 7 #[.slice a n c, .agg (sc f)] w fun e w' => ∃ v, e = .returned v ∧ PgV w' v (dirL f P n) ∧ Below w.heap.size w w' := by
  have HP := Lib.hid hP
  have HN := Lib.hid hn
  clear hP hn
  go_enter Tryd.func7, Tryd.ntmps7
  go_wp2_with (first
    | (refine wpList_box_arr rfl TW (.tmp 1) rfl (sc f) (by rfl) ?_; intro g1 w1 hg1 hk1 hb1)
    | (show wpList _ _ _ (⟨some 8, _, _, _, _, _⟩ :: _) _ _; refine wpList_load_sc rfl TW (.tmp 3) rfl g1 f TW (by rfl) arr_TW hk1 ?_))
  refine (of_any f w1).mono ?_
  rintro e w2 ⟨rfl, hb2⟩
  have hB2 := hb1.trans (hb2.mono hb1.size)
  go_wp2_with (first
    | (show wpList _ _ _ (⟨some 5, _, _, _, _, _⟩ :: _) _ _; refine wpList_alloc_arr rfl TB rfl arrz_TB ?_; intro g2 w3 hg2 hk2 hb3)
    | (refine wpList_store_bc rfl (.tmp 5) (.tmp 9) rfl g2 _ _ (by rfl) (by rfl) hk2 ?_; intro w4 hk4 ht4 _))
  have hB4 : Below w.heap.size w w4 := (hB2.trans (hb3.mono hB2.size)).trans (ht4.below (by have := hB2.size; have := hb3.size; omega) (fun i hi => by subst hi; have := hB2.size; omega))
  have HK := Lib.hid hk4
  have H1 := Lib.hid hB4
  replace HP := Lib.hid (HP.out.below hB4 (Nat.le_refl _))
  clear hg1 hk1 hb1 hb2 hB2 hg2 hk2 hb3 ht4 hk4 hB4
  go_loopw [6, 7] (fun u i wr => ∃ (k : Nat) (v : Value), v = u ∧ i = .int .i64 k ∧ (k ≤ n ∨ k = 2) ∧ 2 ≤ k ∧ Hid (wr.ownsRow w4.heap.size ZT 1 v (dirL f P k).length (iv (dirL f P k))) ∧ Hid (Below w4.heap.size w4 wr)) (fun _ i _ => n - (intOf i).toNat)
  case atStart => exact ⟨2, _, rfl, rfl, by omega, by omega, World.ownsRow_nil _ _ _ _, Below.refl _ _⟩
  case round =>
    obtain ⟨k, v, rfl, rfl, hk, hk2, hown, hB⟩ := hrel
    by_cases hlt : k < n
    · obtain ⟨g, o, ad, m, cc, rfl, hcell, hm, hsrc, hmc, hcm, hb8⟩ := (HP.out.below hB.out (Nat.le_refl _)).at (k := k) (by rw [HN.out]; exact hlt)
      have i1 : (k : Int) < (n : Int) := by omega
      have e5 : decide ((1023 : Int) < (k : Int)) = false := decide_eq_false (by omega)
      have hdy := fun h => @dirL_yes f P k h
      have hdn := fun h => @dirL_no f P k h
      have hk3 := bc_yes (HK.out.ext hB.out) k (by omega)
      have hle := Lib.hid (dirL_le f P k)
      unfold dirB at hdy hdn
      rw [inB_nat f k (by omega), decide_eq_true (show 2 ≤ k from hk2)] at hdy hdn
      have hbl := rblank_any ad m cc (pgK P k) hm wr (by omega) hsrc
      generalize f k = D at *
      generalize allZero (pgK P k) = E at *
      clear hsrc hm hmc hcm hb8 hk
      cases hD : D with
      | true =>
        subst hD
        have hst := hdn rfl
        have ho2 := Lib.hid (show wr.ownsRow w4.heap.size ZT 1 v (dirL f P (k + 1)).length (iv (dirL f P (k + 1))) by rw [hst]; exact hown.out)
        clear hdy hdn hst hbl hown
        go_wp2
        go_roundw
        case rel => exact ⟨k + 1, v, rfl, by go_num, by omega, by omega, ho2, hB⟩
        case measure => simp [intOf]; omega
      | false =>
        subst hD
        have Hbl := Lib.hid hbl
        clear hbl
        go_wp2_with fail
        refine Hbl.out.mono ?_
        rintro e w3 ⟨rfl, rfl⟩
        clear Hbl
        cases hE : E with
        | true =>
          subst hE
          have hst := hdn rfl
          have ho2 := Lib.hid (show wr.ownsRow w4.heap.size ZT 1 v (dirL f P (k + 1)).length (iv (dirL f P (k + 1))) by rw [hst]; exact hown.out)
          clear hst hdy hdn
          go_wp2
          go_roundw
          case rel => exact ⟨k + 1, v, rfl, by go_num, by omega, by omega, ho2, hB⟩
          case measure => simp [intOf]; omega
        | false =>
          subst hE
          have Hst := Lib.hid (hdy rfl)
          have hsz := hB.out.size
          have hnew := Lib.hid (zcell_new wr ZT (k : Int))
          clear hdy hdn
          go_wp2_with (at_builtin; refine wpList_append_page rfl (.tmp 32) (.tmp 34) SZT rfl w4.heap.size ZT Tryd.underlying27 infoInt _ (dirL f P k) (by rfl) (hown.out.alloc _) wr.heap.size 1 (k : Int) (by rfl) hnew.out (by have := hle.out; omega) (by simp; omega) ?_; intro v5 w5 hown5 hgrow5)
          have hb5 : Hid (Below w4.heap.size w4 w5) := (hB.out.alloc hsz _).grown hgrow5.out (by simp; omega) (fun j hj => (hown.out.lt j hj).1)
          have ho5 : Hid (w5.ownsRow w4.heap.size ZT 1 v5 (dirL f P (k + 1)).length (iv (dirL f P (k + 1)))) := by rw [Hst.out]; exact hown5
          clear hown5 hgrow5 hown hB Hst hnew hsz
          go_wp2
          go_roundw
          case rel => exact ⟨k + 1, v5, rfl, by go_num, by omega, by omega, ho5, hb5⟩
          case measure => simp [intOf]; omega
    · have he : Hid (dirL f P k = dirL f P n) := dirL_start f P n k (by omega) hk hk2
      go_wp2
      go_ret
      exact ⟨_, rfl, by rw [← he.out]; exact own_pages hown.out, H1.out.trans (hB.out.mono H1.out.size)⟩
end Go.Proofs.YtfjjfickbhkpaaaDoor
namespace Go.Proofs.YtfjjfickbhkpaaaDoor
open Go Go.RowKit

set_option maxRecDepth 100000 in
theorem rclean_any (a : Option Addr) (n c : Nat) (P : List (List Nat)) (f : Nat → Bool) (hn : P.length = n) (w : World) (hl : n ≤ 1000) (hP : PgIn w a P) :
    Calls Tryd.prog 11 #[.slice a n c, .agg (sc f)] w fun e w' => e = .returned (.bool (clnS f P n)) ∧ Below w.heap.size w w' := by
  have HP := Lib.hid hP
  have HN := Lib.hid hn
  clear hP hn
  have hdir := Lib.hid (fun w1 h => rdirty_any a n c P f HN.out w1 hl h)
  obtain ⟨R, hR⟩ : ∃ R, clnS f P n = R := ⟨_, rfl⟩
  rw [hR]
  have HR := Lib.hid hR
  clear hR
  go_enter Tryd.func11, Tryd.ntmps11
  go_wp2_with (first
    | (refine wpList_box_arr rfl TW (.tmp 1) rfl (sc f) (by rfl) ?_; intro g1 w1 hg1 hk1 hb1)
    | (show wpList _ _ _ (⟨some 10, _, _, _, _, _⟩ :: _) _ _; refine wpList_load_sc rfl TW (.tmp 3) rfl g1 f TW (by rfl) arr_TW hk1 ?_))
  refine (of_any f w1).mono ?_
  rintro e w2 ⟨rfl, hb2⟩
  have hB2 := hb1.trans (hb2.mono hb1.size)
  go_wp2_with (first
    | (show wpList _ _ _ (⟨some 5, _, _, _, _, _⟩ :: _) _ _; refine wpList_alloc_arr rfl TB rfl arrz_TB ?_; intro g2 w3 hg2 hk2 hb3)
    | (refine wpList_store_bc rfl (.tmp 5) (.tmp 11) rfl g2 _ _ (by rfl) (by rfl) hk2 ?_; intro w4 hk4 ht4 _))
  have hB4 : Below w.heap.size w w4 := (hB2.trans (hb3.mono hB2.size)).trans (ht4.below (by have := hB2.size; have := hb3.size; omega) (fun i hi => by subst hi; have := hB2.size; omega))
  have HK1 : Hid (Blk w4 g1 TW (sc f)) := ((hk1.ext hb2).ext hb3).turn ht4 (fun e => by have := hk1.lt; have := hb2.size; omega)
  have HK := Lib.hid hk4
  have H1 := Lib.hid hB4
  replace HP := Lib.hid (HP.out.below hB4 (Nat.le_refl _))
  clear hg1 hk1 hb1 hb2 hB2 hg2 hk2 hb3 ht4 hk4 hB4
  go_loopw [6, 7, 8, 9, 22] (fun i _ _ _ _ wr => ∃ k : Nat, i = .int .i64 k ∧ (k ≤ n ∨ k = 2) ∧ 2 ≤ k ∧ Hid (clnL f P k = true) ∧ Hid (Below w4.heap.size w4 wr)) (fun i _ _ _ _ _ => n - (intOf i).toNat)
  case atStart => exact ⟨2, rfl, by omega, by omega, rfl, Below.refl _ _⟩
  case round =>
    obtain ⟨k, rfl, hk, hk2, hcl, hB⟩ := hrel
    by_cases hlt : k < n
    · obtain ⟨g, o, ad, m, cc, rfl, hcell, hm, hsrc, hmc, hcm, hb8⟩ := (HP.out.below hB.out (Nat.le_refl _)).at (k := k) (by rw [HN.out]; exact hlt)
      have i1 : (k : Int) < (n : Int) := by omega
      have e5 : decide ((k : Int) < 1024) = true := decide_eq_true (by omega)
      have hcy := fun h => @clnL_yes f P k hcl.out h
      have hcn := fun h => @clnL_no f P k h n hlt
      unfold clnB isPg at hcy hcn
      rw [inB_nat f k (by omega), decide_eq_true (show 2 ≤ k from hk2)] at hcy hcn
      have hop := Lib.hid (refOpen_any ad m cc (pgK P k) hm wr hb8 hmc hcm hsrc)
      have HY := Lib.hid (fun w' (hx : Below wr.heap.size wr w') => bc_yes ((HK.out.ext hB.out).ext hx) k (by omega))
      generalize f k = D at *
      generalize (opS (pgK P k)).2.2 = E at *
      have Hcy := Lib.hid hcy
      have Hcn := Lib.hid hcn
      clear hsrc hm hmc hcm hb8 hk hcl hcy hcn
      go_wp2_with fail
      refine hop.out.mono ?_
      rintro e w2 ⟨v, rfl, _, hb2⟩
      have hk3 := HY.out w2 hb2
      replace hB := Lib.hid (hB.out.trans (hb2.mono hB.out.size))
      clear hb2 hcell hop HY
      cases hD : D with
      | false =>
        subst hD
        have Hst := Lib.hid (Hcy.out rfl)
        clear Hcy Hcn
        go_wp2
        go_roundw
        case rel => exact ⟨k + 1, by go_num, by omega, by omega, Hst, hB⟩
        case measure => simp [intOf]; omega
      | true =>
        subst hD
        by_cases h0 : E = 0
        · subst h0
          have Hst := Lib.hid (Hcy.out rfl)
          clear Hcy Hcn
          go_wp2
          go_roundw
          case rel => exact ⟨k + 1, by go_num, by omega, by omega, Hst, hB⟩
          case measure => simp [intOf]; omega
        · have e1 : ((E : Int) != 0) = true := by
            show (!(_ == _)) = true
            rw [beq_eq_false_iff_ne.2 (by omega)]; rfl
          have Hst : Hid (R = false) := by
            rw [← HR.out]; unfold clnS; rw [Hcn.out (by rw [beq_eq_false_iff_ne.2 h0]; rfl)]; exact rfl
          clear Hcy Hcn h0
          go_wp2
          go_ret
          exact ⟨by rw [Hst.out]; rfl, H1.out.trans (hB.out.mono H1.out.size)⟩
    · have he := clnL_start f P n k (by omega) hk hk2
      have hk3 := HK1.out.ext hB.out
      obtain ⟨D, hD1, hD2⟩ := len_zero (dirL f P n)
      have HD : Hid (R = D) := by
        rw [← HR.out]; unfold clnS; rw [← he, hcl.out, hD2]; exact Bool.true_and _
      have hnl : ¬ (k : Int) < (n : Int) := by omega
      clear hcl hD2 he
      go_wp2_with (first | (refine wpList_load_sc rfl TW (.tmp 3) rfl g1 f TW (by rfl) arr_TW hk3 ?_))
      refine (hdir.out wr (HP.out.below hB.out (Nat.le_refl _))).mono ?_
      rintro e w2 ⟨v, rfl, hv, hb2⟩
      obtain ⟨av, cv, rfl, _⟩ := hv
      replace hB := Lib.hid (hB.out.trans (hb2.mono hB.out.size))
      clear hb2 hk3
      generalize (dirL f P n).length = L at *
      go_wp2
      go_ret
      exact ⟨by rw [HD.out]; rfl, H1.out.trans (hB.out.mono H1.out.size)⟩
set_option maxRecDepth 100000 in
theorem rslack_any (a : Option Addr) (n c : Nat) (P : List (List Nat)) (f : Nat → Bool) (hn : P.length = n) (w : World) (hl : n ≤ 1000) (hP : PgIn w a P) :
    Calls Tryd.prog 9 #[.slice a n c, .agg (sc f)] w fun e w' => e = .returned (.tuple #[.int .i64 (slA f P n : Nat), .int .i64 (slW f P n : Nat)]) ∧ Below w.heap.size w w' := by
  have HP := Lib.hid hP
  have HN := Lib.hid hn
  clear hP hn
  go_enter Tryd.func9, Tryd.ntmps9
  go_wp2_with (first
    | (refine wpList_box_arr rfl TW (.tmp 1) rfl (sc f) (by rfl) ?_; intro g1 w1 hg1 hk1 hb1)
    | (show wpList _ _ _ (⟨some 12, _, _, _, _, _⟩ :: _) _ _; refine wpList_load_sc rfl TW (.tmp 3) rfl g1 f TW (by rfl) arr_TW hk1 ?_))
  refine (of_any f w1).mono ?_
  rintro e w2 ⟨rfl, hb2⟩
  have hB2 := hb1.trans (hb2.mono hb1.size)
  go_wp2_with (first
    | (show wpList _ _ _ (⟨some 6, _, _, _, _, _⟩ :: _) _ _; refine wpList_alloc_arr rfl TB rfl arrz_TB ?_; intro g2 w3 hg2 hk2 hb3)
    | (refine wpList_store_bc rfl (.tmp 6) (.tmp 13) rfl g2 _ _ (by rfl) (by rfl) hk2 ?_; intro w4 hk4 ht4 _))
  have hB4 : Below w.heap.size w w4 := (hB2.trans (hb3.mono hB2.size)).trans (ht4.below (by have := hB2.size; have := hb3.size; omega) (fun i hi => by subst hi; have := hB2.size; omega))
  have HK := Lib.hid hk4
  have H1 := Lib.hid hB4
  replace HP := Lib.hid (HP.out.below hB4 (Nat.le_refl _))
  clear hg1 hk1 hb1 hb2 hB2 hg2 hk2 hb3 ht4 hk4 hB4
  go_loopw [7, 8, 9, 10, 11] (fun x y i _ _ wr => ∃ k A B : Nat, x = .int .i64 A ∧ y = .int .i64 B ∧ i = .int .i64 k ∧ (k ≤ n ∨ k = 2) ∧ 2 ≤ k ∧ A ≤ 504 * k ∧ B ≤ 504 * k ∧ Hid (slA f P k = A) ∧ Hid (slW f P k = B) ∧ Hid (Below w4.heap.size w4 wr)) (fun _ _ i _ _ _ => n - (intOf i).toNat)
  case atStart => exact ⟨2, 0, 0, rfl, rfl, rfl, by omega, by omega, by omega, by omega, (sl_two f P).1, (sl_two f P).2, Below.refl _ _⟩
  case round =>
    obtain ⟨k, A, B, rfl, rfl, rfl, hk, hk2, hA5, hB5, hA, hBw, hB⟩ := hrel
    by_cases hlt : k < n
    · obtain ⟨W0, hW0⟩ : ∃ W0, W0 = wr := ⟨_, rfl⟩
      subst hW0
      obtain ⟨g, o, ad, m, cc, rfl, hcell, hm, hsrc, hmc, hcm, hb8⟩ := (HP.out.below hB.out (Nat.le_refl _)).at (k := k) (by rw [HN.out]; exact hlt)
      have i1 : (k : Int) < (n : Int) := by omega
      have e5 : decide ((k : Int) < 1024) = true := decide_eq_true (by omega)
      have hsn := fun h => @sl_no f P k h
      have hsy := fun h => @sl_yes f P k h
      have hk3 := bc_yes (HK.out.ext hB.out) k (by omega)
      unfold slB at hsn hsy
      rw [inB_nat f k (by omega), decide_eq_true (show 2 ≤ k from hk2), hm, hA.out, hBw.out] at hsn hsy
      generalize f k = D at *
      clear hk
      cases hD : D with
      | false =>
        subst hD
        have hst := hsn rfl
        have HA2 := Lib.hid hst.1
        have HB2 := Lib.hid hst.2
        clear hst hsn hsy hA hBw hsrc hm hmc hcm hb8
        go_wp2
        go_roundw
        case rel => exact ⟨k + 1, A, B, rfl, rfl, by go_num, by omega, by omega, by omega, by omega, HA2, HB2, hB⟩
        case measure => simp [intOf]; omega
      | true =>
        subst hD
        by_cases h5 : m = 512
        · subst h5
          have hst := hsy rfl
          obtain ⟨b, q, rfl, hcs⟩ := hsrc (by omega)
          obtain ⟨hre1, hre2⟩ := rf_end hm
          rw [← hre2, ← hre1] at hst
          have hx := hb8.get 2
          have hy := hb8.get 3
          have hlN : Hid (ldN (pgK P k) = (pgK P k).getD 2 0 * 256 + (pgK P k).getD 3 0) := rfl
          have hc2 := hcs 2 (by omega)
          have hc3 := hcs 3 (by omega)
          have hN6 : ldN (pgK P k) < 65536 := by unfold ldN; omega
          have Hcs := Lib.hid hcs
          have Hm := Lib.hid hm
          have hcellX : ∀ w', Ext W0.drew w' → w'.cell? ⟨g, o + k, none⟩ = some (.slice (some ⟨b, q, none⟩) 512 cc) := fun w' he => (he.cell (p := ⟨g, o + k, none⟩) (block_lt_of_cell hcell)).trans hcell
          have q2 : ∀ w', Ext W0.drew w' → w'.cell? ⟨b, q + 2, none⟩ = some (.int .u8 ((pgK P k).getD 2 0 : Nat)) := fun w' he => (he.cell (p := ⟨b, q + 2, none⟩) (block_lt_of_cell hc2)).trans hc2
          have q3 : ∀ w', Ext W0.drew w' → w'.cell? ⟨b, q + 3, none⟩ = some (.int .u8 ((pgK P k).getD 3 0 : Nat)) := fun w' he => (he.cell (p := ⟨b, q + 3, none⟩) (block_lt_of_cell hc3)).trans hc3
          generalize hPK : pgK P k = l at *
          generalize ldN l = N at *
          generalize l.getD 2 0 = X at *
          generalize l.getD 3 0 = Y at *
          have wX : IntKind.i64.wrap (X : Int) = (X : Int) := by rw [IntKind.wrap_i64]; omega
          have wY : IntKind.i64.wrap (Y : Int) = (Y : Int) := by rw [IntKind.wrap_i64]; omega
          have e6 : IntKind.i64.wrap (256 * (X : Int)) = ((256 * X : Nat) : Int) := by rw [IntKind.wrap_i64]; omega
          have e7 : IntKind.i64.wrap (((256 * X : Nat) : Int) + (Y : Int)) = (N : Int) := by rw [IntKind.wrap_i64]; have := hlN.out; omega
          have hX8 : 256 * X < 65536 := by omega
          generalize 256 * X = X8 at *
          have HA2 := Lib.hid hst.1
          have HB2 := Lib.hid hst.2
          clear hst hsn hsy hA hBw hPK hre1 hre2 hcs hc2 hc3 hm hlN hb8
          obtain ⟨W1, hW1⟩ : ∃ W1, W0.drew = W1 := ⟨_, rfl⟩
          have hcell1 : W1.cell? ⟨g, o + k, none⟩ = some (.slice (some ⟨b, q, none⟩) 512 cc) := by rw [← hW1]; exact hcell
          have Hcs1 : Hid (Cs W1 b q l) := by rw [← hW1]; exact Hcs.out
          have HB1 : Hid (Below w4.heap.size w4 W1) := by rw [← hW1]; exact hB.out.trans (Below.refl _ _).drew
          rw [hW1] at hcellX q2 q3
          have HW1 := Lib.hid hW1
          clear hW1 Hcs hB
          go_wp2_with fail
          refine wp_region_gr [(0, true), (1, true), (2, true), (3, true), (4, true), (5, true), (6, true), (7, true), (8, true), (9, true), (10, true), (11, true), (12, true), (13, true), (14, true), (15, true), (16, true)] (by kernel_rfl) (by kernel_rfl) (by kernel_rfl) (by kernel_rfl) (fun _ _ _ _ _ h => h) ?_
          rw [HW1.out]
          iterate 17 (refine wpGr_read (o := ⟨_, _, _, _, _, _⟩) (v := ?_) rfl (by rfl) ?_ ?_; rotate_left; (intro w' hw'; go_simp; with_reducible rfl); simp only [Act.put, List.setIfInBounds_toArray, List.set_cons_zero, List.set_cons_succ])
          refine wpGr_done ?_
          clear q2 q3 hcellX HW1 hcell hk3 wX wY e6 e7
          go_wp2_with fail
          have z1 : IntKind.i64.wrap (4 + (N : Int)) = ((4 + N : Nat) : Int) := by rw [IntKind.wrap_i64]; omega
          go_loopw [7, 8, 11] (fun x y j wx => ∃ t p r : Nat, x = .int .i64 (A + p : Nat) ∧ y = .int .i64 (B + r : Nat) ∧ j = .int .i64 (4 + t : Nat) ∧ t ≤ 504 ∧ p ≤ t ∧ r ≤ t ∧ Hid (rfA N t = p) ∧ Hid (rfW l N t = r) ∧ Hid (wx = W1)) (fun _ _ j _ => 508 - (intOf j).toNat)
          case atStart => exact ⟨0, 0, 0, rfl, rfl, rfl, by omega, by omega, by omega, rfl, rfl, rfl⟩
          case round =>
            obtain ⟨t, p, r, rfl, rfl, rfl, ht, hp, hr, hpa, hra, hwx⟩ := hrel
            obtain rfl := hwx.out
            by_cases ht5 : t < 504
            · have j1 : ((4 + t : Nat) : Int) < 508 := by omega
              have hcj := Hcs1.out (4 + t) (by rw [Hm.out]; omega)
              have hsA : rfA N (t + 1) = p + if N ≤ t then 1 else 0 := by rw [rfA, hpa.out]
              have hsW : rfW l N (t + 1) = r + if N ≤ t ∧ ¬ l.getD (4 + t) 0 = 0 then 1 else 0 := by rw [rfW, hra.out]
              generalize l.getD (4 + t) 0 = Z at *
              have j2 : ((4 + t : Nat) : Int) < 512 := by omega
              have j3 : (0 : Int) ≤ ((4 + t : Nat) : Int) := by omega
              have j4 : IntKind.i64.wrap (((4 + t : Nat) : Int) + 1) = ((4 + (t + 1) : Nat) : Int) := by rw [IntKind.wrap_i64]; omega
              by_cases hNt : N ≤ t
              · have j5 : decide (((4 + N : Nat) : Int) ≤ ((4 + t : Nat) : Int)) = true := decide_eq_true (by omega)
                have j7 : decide (4 + N ≤ 4 + t) = true := decide_eq_true (by omega)
                have j6 : IntKind.i64.wrap (((A + p : Nat) : Int) + 1) = ((A + (p + 1) : Nat) : Int) := by rw [IntKind.wrap_i64]; omega
                have HA3 : Hid (rfA N (t + 1) = p + 1) := by rw [hsA, if_pos hNt]; exact rfl
                have hm4 : Hid (508 - (4 + (t + 1)) < 508 - (4 + t)) := by show _ < _; omega
                by_cases hZ : Z = 0
                · subst hZ
                  have HB3 : Hid (rfW l N (t + 1) = r) := by rw [hsW, if_neg (fun h => h.2 rfl)]; exact rfl
                  have hb3 : Hid (t + 1 ≤ 504 ∧ p + 1 ≤ t + 1 ∧ r ≤ t + 1) := by refine ⟨?_, ?_, ?_⟩ <;> omega
                  obtain ⟨T1, hT1⟩ : ∃ x, 4 + (t + 1) = x := ⟨_, rfl⟩
                  obtain ⟨A1, hA1⟩ : ∃ x, A + (p + 1) = x := ⟨_, rfl⟩
                  rw [hT1] at j4 hm4
                  rw [hA1] at j6
                  have HT1 := Lib.hid hT1
                  have HA1 := Lib.hid hA1
                  clear hsA hsW hNt ht hp hr hpa hra ht5 hN6 hT1 hA1
                  generalize 4 + t = T0 at *
                  generalize 4 + N = N4 at *
                  generalize A + p = A0 at *
                  go_wp2
                  go_roundw
                  case rel => exact ⟨t + 1, p + 1, r, by rw [HA1.out], rfl, by rw [HT1.out], hb3.out.1, hb3.out.2.1, hb3.out.2.2, HA3, HB3, trivial⟩
                  case measure => simp only [intOf]; exact hm4.out
                · have HB3 : Hid (rfW l N (t + 1) = r + 1) := by rw [hsW, if_pos ⟨hNt, hZ⟩]; exact rfl
                  have hb3 : Hid (t + 1 ≤ 504 ∧ p + 1 ≤ t + 1 ∧ r + 1 ≤ t + 1) := by refine ⟨?_, ?_, ?_⟩ <;> omega
                  have e1 : ((Z : Int) != 0) = true := by
                    show (!(_ == _)) = true
                    rw [beq_eq_false_iff_ne.2 (by omega)]; rfl
                  have j8 : IntKind.i64.wrap (((B + r : Nat) : Int) + 1) = ((B + (r + 1) : Nat) : Int) := by rw [IntKind.wrap_i64]; omega
                  obtain ⟨T1, hT1⟩ : ∃ x, 4 + (t + 1) = x := ⟨_, rfl⟩
                  obtain ⟨A1, hA1⟩ : ∃ x, A + (p + 1) = x := ⟨_, rfl⟩
                  obtain ⟨B1, hB1⟩ : ∃ x, B + (r + 1) = x := ⟨_, rfl⟩
                  rw [hT1] at j4 hm4
                  rw [hA1] at j6
                  rw [hB1] at j8
                  have HT1 := Lib.hid hT1
                  have HA1 := Lib.hid hA1
                  have HB4 := Lib.hid hB1
                  clear hsA hsW hNt ht hp hr hpa hra ht5 hN6 hT1 hA1 hB1 hZ
                  generalize 4 + t = T0 at *
                  generalize 4 + N = N4 at *
                  generalize A + p = A0 at *
                  generalize B + r = B0 at *
                  go_wp2
                  go_roundw
                  case rel => exact ⟨t + 1, p + 1, r + 1, by rw [HA1.out], by rw [HB4.out], by rw [HT1.out], hb3.out.1, hb3.out.2.1, hb3.out.2.2, HA3, HB3, trivial⟩
                  case measure => simp only [intOf]; exact hm4.out
              · have j5 : decide (((4 + N : Nat) : Int) ≤ ((4 + t : Nat) : Int)) = false := decide_eq_false (by omega)
                have j7 : decide (4 + N ≤ 4 + t) = false := decide_eq_false (by omega)
                have HA3 : Hid (rfA N (t + 1) = p) := by rw [hsA, if_neg hNt]; exact rfl
                have HB3 : Hid (rfW l N (t + 1) = r) := by rw [hsW, if_neg (fun h => hNt h.1)]; exact rfl
                have hb3 : Hid (t + 1 ≤ 504 ∧ p ≤ t + 1 ∧ r ≤ t + 1) := by refine ⟨?_, ?_, ?_⟩ <;> omega
                have hm4 : Hid (508 - (4 + (t + 1)) < 508 - (4 + t)) := by show _ < _; omega
                obtain ⟨T1, hT1⟩ : ∃ x, 4 + (t + 1) = x := ⟨_, rfl⟩
                rw [hT1] at j4 hm4
                have HT1 := Lib.hid hT1
                clear hsA hsW hNt ht hp hr hpa hra ht5 hN6 hT1
                generalize 4 + t = T0 at *
                generalize 4 + N = N4 at *
                go_wp2
                go_roundw
                case rel => exact ⟨t + 1, p, r, rfl, rfl, by rw [HT1.out], hb3.out.1, hb3.out.2.1, hb3.out.2.2, HA3, HB3, trivial⟩
                case measure => simp only [intOf]; exact hm4.out
            · obtain rfl : t = 504 := by omega
              have hpp := hpa.out
              have hrr := hra.out
              have HA4 : Hid (slA f P (k + 1) = A + p) := by rw [← hpp]; exact HA2
              have HB4 : Hid (slW f P (k + 1) = B + r) := by rw [← hrr]; exact HB2
              have hb4 : Hid (A + p ≤ 504 * (k + 1) ∧ B + r ≤ 504 * (k + 1)) := by refine ⟨?_, ?_⟩ <;> omega
              have j1 : ¬ ((4 + 504 : Nat) : Int) < 508 := by omega
              clear HA2 HB2 hpp hrr hpa hra hp hr ht5 ht hN6
              generalize A + p = A0 at *
              generalize B + r = B0 at *
              go_wp2
              go_roundw
              case rel => exact ⟨k + 1, A0, B0, rfl, rfl, by go_num, by omega, by omega, hb4.out.1, hb4.out.2, HA4, HB4, HB1⟩
              case measure => simp [intOf]; omega
        · have h5' : ((m : Int) != 512) = true := by
            show (!(_ == _)) = true
            rw [beq_eq_false_iff_ne.2 (by omega)]; rfl
          have hst := hsn (by rw [decide_eq_false h5]; rfl)
          have HA2 := Lib.hid hst.1
          have HB2 := Lib.hid hst.2
          clear hst hsn hsy hA hBw hsrc hm hmc hcm hb8 h5
          go_wp2
          go_roundw
          case rel => exact ⟨k + 1, A, B, rfl, rfl, by go_num, by omega, by omega, by omega, by omega, HA2, HB2, hB⟩
          case measure => simp [intOf]; omega
    · obtain ⟨e1, e2⟩ := sl_start f P n k (by omega) hk hk2
      have HA2 : Hid (slA f P n = A) := by rw [← e1]; exact hA
      have HB2 : Hid (slW f P n = B) := by rw [← e2]; exact hBw
      have hnl : ¬ (k : Int) < (n : Int) := by omega
      clear e1 e2
      go_wp2
      go_ret2
      exact ⟨by rw [HA2.out, HB2.out]; rfl, H1.out.trans (hB.out.mono H1.out.size)⟩
end Go.Proofs.YtfjjfickbhkpaaaDoor
