/-
  scrub's Clean, Slack.
-/
import Derived.Test.YtfjjfickbhkpaaaDoorScrub2Z
namespace Go.Proofs.YtfjjfickbhkpaaaDoor
open Go Go.RowKit

theorem len_zero {α : Type} (l : List α) : ∃ D, (((l.length : Nat) : Int) == 0) = D ∧ (l.length == 0) = D := ⟨_, rfl, by
  rw [Bool.eq_iff_iff, beq_iff_eq, beq_iff_eq]; omega⟩
set_option maxRecDepth 100000 in
theorem clean_any (a : Option Addr) (n c : Nat) (P : List (List Nat)) (f : Nat → Bool) (hn : P.length = n) (w : World) (hl : n ≤ 1000) (hP : PgW w a P) (hT : WorthIn w) :
    Calls Tryd.prog 10 #[.slice a n c, .agg (sc f)] w fun e w' => e = .returned (.bool (clnS f P n)) ∧ Below w.heap.size w w' := by
  have HP := Lib.hid hP
  have HN := Lib.hid hn
  have HT := Lib.hid hT
  clear hP hn hT
  have hdir := Lib.hid (fun w1 h => dirty_any a n c P f HN.out w1 hl h)
  obtain ⟨R, hR⟩ : ∃ R, clnS f P n = R := ⟨_, rfl⟩
  rw [hR]
  have HR := Lib.hid hR
  clear hR
  go_enter Tryd.func10, Tryd.ntmps10
  go_wp2_with (first | (refine wpList_box_arr rfl TS (.tmp 1) rfl (sc f) (by rfl) ?_; intro g1 w1 hg1 hk1 hb1))
  have HK := Lib.hid hk1
  have H1 := Lib.hid hb1
  replace HP := Lib.hid (HP.out.below hb1 (Nat.le_refl _))
  replace HT := Lib.hid (HT.out.below hb1)
  clear hg1 hk1 hb1
  go_loopw [5, 6, 9] (fun _ _ i wr => ∃ k : Nat, i = .int .i64 k ∧ k ≤ n ∧ Hid (clnL f P k = true) ∧ Hid (Below w1.heap.size w1 wr)) (fun _ _ i _ => n - (intOf i).toNat)
  case atStart => exact ⟨0, rfl, by omega, rfl, Below.refl _ _⟩
  case round =>
    obtain ⟨k, rfl, hk, hcl, hB⟩ := hrel
    by_cases hlt : k < n
    · obtain ⟨g, o, ad, m, cc, rfl, hcell, hm, hsrc, hmc, hcm, hb8⟩ := (HP.out.below hB.out (Nat.le_refl _)).at (k := k) (by rw [HN.out]; exact hlt)
      have i1 : (k : Int) < (n : Int) := by omega
      have hcy := fun h => @clnL_yes f P k hcl.out h
      have hcn := fun h => @clnL_no f P k h n hlt
      have hhas := Lib.hid (fun w => bhas_any f (k : Int) w)
      have hk3 := HK.out.ext hB.out
      unfold clnB at hcy hcn
      have hv : BW wr (.slice ad m cc) (pgK P k) := ⟨⟨ad, cc, by rw [hm], hsrc, by omega, hcm⟩, hb8⟩
      have hip := Lib.hid (fun w hv hT => isP_any (.slice ad m cc) (pgK P k) w hv hT)
      have Hv := Lib.hid hv
      clear hv hsrc hm hmc hcm hb8
      generalize inB f (k : Int) = D at *
      generalize isPg (pgK P k) = E at *
      by_cases h2 : k < 2
      · have e2 : decide (2 ≤ k) = false := decide_eq_false (by omega)
        have e3 : decide ((2 : Int) ≤ (k : Int)) = false := decide_eq_false (by omega)
        have Hst := Lib.hid (hcy (by rw [e2]; rfl))
        clear hcy hcn h2 hk3 hcl
        go_wp2
        go_roundw
        case rel => exact ⟨k + 1, by go_num, by omega, Hst, hB⟩
        case measure => simp [intOf]; omega
      · have e2 : decide (2 ≤ k) = true := decide_eq_true (by omega)
        have e3 : decide ((2 : Int) ≤ (k : Int)) = true := decide_eq_true (by omega)
        rw [e2] at hcy hcn
        clear h2
        cases hD : D with
        | false =>
          subst hD
          have Hst := Lib.hid (hcy rfl)
          clear hcy hcn hcl
          go_wp2_with (first | (show wpList _ _ _ (⟨some 17, _, _, _, _, _⟩ :: _) _ _; refine wpList_load_when (by rfl) TS (.tmp 3) rfl g1 f TS (by rfl) arr_TS hk3 ?_))
          refine (hhas.out wr).mono ?_
          rintro e w2 ⟨rfl, hb2⟩
          replace hB := Lib.hid (hB.out.trans (hb2.mono hB.out.size))
          clear hb2 hk3 hcell
          go_wp2
          go_roundw
          case rel => exact ⟨k + 1, by go_num, by omega, Hst, hB⟩
          case measure => simp [intOf]; omega
        | true =>
          subst hD
          go_wp2_with (first | (show wpList _ _ _ (⟨some 17, _, _, _, _, _⟩ :: _) _ _; refine wpList_load_when (by rfl) TS (.tmp 3) rfl g1 f TS (by rfl) arr_TS hk3 ?_))
          refine (hhas.out wr).mono ?_
          rintro e w2 ⟨rfl, hb2⟩
          replace hB := Lib.hid (hB.out.trans (hb2.mono hB.out.size))
          replace Hv := Lib.hid (Hv.out.ext hb2)
          clear hb2 hk3 hcell
          go_wp2_with fail
          refine (hip.out w2 Hv.out (HT.out.below hB.out)).mono ?_
          rintro e w3 ⟨rfl, hb3⟩
          replace hB := Lib.hid (hB.out.trans (hb3.mono hB.out.size))
          clear hb3
          cases hE : E with
          | true =>
            subst hE
            have Hst := Lib.hid (hcy rfl)
            clear hcy hcn hcl
            go_wp2
            go_roundw
            case rel => exact ⟨k + 1, by go_num, by omega, Hst, hB⟩
            case measure => simp [intOf]; omega
          | false =>
            subst hE
            have Hst : Hid (R = false) := by
              rw [← HR.out]; unfold clnS; rw [hcn rfl]; exact rfl
            clear hcy hcn hcl
            go_wp2
            go_ret
            exact ⟨by rw [Hst.out]; rfl, H1.out.trans (hB.out.mono H1.out.size)⟩
    · obtain rfl : k = n := by omega
      have hk3 := HK.out.ext hB.out
      obtain ⟨D, hD1, hD2⟩ := len_zero (dirL f P k)
      have HD : Hid (R = D) := by
        rw [← HR.out]; unfold clnS; rw [hcl.out, hD2]; exact Bool.true_and _
      clear hcl hD2
      go_wp2_with (first | (refine wpList_load_sc rfl TS (.tmp 3) rfl g1 f TS (by rfl) arr_TS hk3 ?_))
      refine (hdir.out wr (HP.out.below hB.out (Nat.le_refl _))).mono ?_
      rintro e w2 ⟨v, rfl, hv, hb2⟩
      obtain ⟨av, cv, rfl, _⟩ := hv
      replace hB := Lib.hid (hB.out.trans (hb2.mono hB.out.size))
      clear hb2 hk3
      generalize (dirL f P k).length = L at *
      go_wp2
      go_ret
      exact ⟨by rw [HD.out]; rfl, H1.out.trans (hB.out.mono H1.out.size)⟩
set_option maxRecDepth 100000 in
theorem slack_any (a : Option Addr) (n c : Nat) (P : List (List Nat)) (f : Nat → Bool) (hn : P.length = n) (w : World) (hl : n ≤ 1000) (hP : PgW w a P) :
    Calls Tryd.prog 8 #[.slice a n c, .agg (sc f)] w fun e w' => e = .returned (.tuple #[.int .i64 (slA f P n : Nat), .int .i64 (slW f P n : Nat)]) ∧ Below w.heap.size w w' := by
  have HP := Lib.hid hP
  have HN := Lib.hid hn
  clear hP hn
  go_enter Tryd.func8, Tryd.ntmps8
  go_wp2_with (first | (refine wpList_box_arr rfl TS (.tmp 1) rfl (sc f) (by rfl) ?_; intro g1 w1 hg1 hk1 hb1))
  have HK := Lib.hid hk1
  have H1 := Lib.hid hb1
  replace HP := Lib.hid (HP.out.below hb1 (Nat.le_refl _))
  clear hg1 hk1 hb1
  go_loopw [6, 7, 8, 9, 10, 13] (fun x y _ _ _ i wr => ∃ k A B : Nat, x = .int .i64 A ∧ y = .int .i64 B ∧ i = .int .i64 k ∧ k ≤ n ∧ A ≤ 504 * k ∧ B ≤ 504 * k ∧ Hid (slA f P k = A) ∧ Hid (slW f P k = B) ∧ Hid (Below w1.heap.size w1 wr)) (fun _ _ _ _ _ i _ => n - (intOf i).toNat)
  case atStart => exact ⟨0, 0, 0, rfl, rfl, rfl, by omega, by omega, by omega, rfl, rfl, Below.refl _ _⟩
  case round =>
    obtain ⟨k, A, B, rfl, rfl, rfl, hk, hA5, hB5, hA, hBw, hB⟩ := hrel
    by_cases hlt : k < n
    · obtain ⟨g, o, ad, m, cc, rfl, hcell, hm, hsrc, hmc, hcm, hb8⟩ := (HP.out.below hB.out (Nat.le_refl _)).at (k := k) (by rw [HN.out]; exact hlt)
      have i1 : (k : Int) < (n : Int) := by omega
      have hsn := fun h => @sl_no f P k h
      have hsy := fun h => @sl_yes f P k h
      have hhas := Lib.hid (fun w => bhas_any f (k : Int) w)
      have hk3 := HK.out.ext hB.out
      unfold slB at hsn hsy
      rw [hm, hA.out, hBw.out] at hsn hsy
      generalize inB f (k : Int) = D at *
      by_cases h2 : k < 2
      · have e2 : decide (2 ≤ k) = false := decide_eq_false (by omega)
        have e3 : decide ((k : Int) < 2) = true := decide_eq_true (by omega)
        have hst := hsn (by rw [e2]; rfl)
        have HA2 := Lib.hid hst.1
        have HB2 := Lib.hid hst.2
        clear hst hsn hsy h2 hk3 hA hBw hsrc hm hmc hcm hb8
        go_wp2
        go_roundw
        case rel => exact ⟨k + 1, A, B, rfl, rfl, by go_num, by omega, by omega, by omega, HA2, HB2, hB⟩
        case measure => simp [intOf]; omega
      · have e2 : decide (2 ≤ k) = true := decide_eq_true (by omega)
        have e3 : decide ((k : Int) < 2) = false := decide_eq_false (by omega)
        rw [e2] at hsn hsy
        clear h2
        cases hD : D with
        | false =>
          subst hD
          have hst := hsn rfl
          have HA2 := Lib.hid hst.1
          have HB2 := Lib.hid hst.2
          clear hst hsn hsy hA hBw hsrc hm hmc hcm hb8
          go_wp2_with (first | (show wpList _ _ _ (⟨some 21, _, _, _, _, _⟩ :: _) _ _; refine wpList_load_when (by rfl) TS (.tmp 3) rfl g1 f TS (by rfl) arr_TS hk3 ?_))
          refine (hhas.out wr).mono ?_
          rintro e w2 ⟨rfl, hb2⟩
          replace hB := Lib.hid (hB.out.trans (hb2.mono hB.out.size))
          clear hb2 hk3 hcell
          go_wp2
          go_roundw
          case rel => exact ⟨k + 1, A, B, rfl, rfl, by go_num, by omega, by omega, by omega, HA2, HB2, hB⟩
          case measure => simp [intOf]; omega
        | true =>
          subst hD
          by_cases h5 : m = 512
          · subst h5
            have hst := hsy rfl
            obtain ⟨b, q, rfl, hcs⟩ := hsrc (by omega)
            have hlb := hcs.lt (by omega)
            have hbeh := Lib.hid (fun w hs => beh_any b q cc (pgK P k) w hm hmc hcm hb8 hs)
            have Hcs := Lib.hid hcs
            have hnz := Lib.hid (fun a c w h => nz_any a (behL (pgK P k)).length c (behL (pgK P k)) rfl w h)
            have hL5 := behL_le (pgK P k)
            have hZ5 := nzK_le (behL (pgK P k)) (behL (pgK P k)).length
            have HL : Hid (∀ b q w, Cs w b q (behL (pgK P k)) → Src w (some ⟨b, q, none⟩) (behL (pgK P k))) := fun b q w h => h.src
            clear hm hmc hcm hb8 hsrc hsn hsy hcs
            generalize hBL : behL (pgK P k) = BL at *
            generalize nzK BL BL.length = Z at *
            have HA2 := Lib.hid hst.1
            have HB2 := Lib.hid hst.2
            have w1e : IntKind.i64.wrap ((A : Int) + (BL.length : Int)) = ((A + BL.length : Nat) : Int) := by rw [IntKind.wrap_i64]; omega
            have w2e : IntKind.i64.wrap ((B : Int) + (Z : Int)) = ((B + Z : Nat) : Int) := by rw [IntKind.wrap_i64]; omega
            clear hst hA hBw hBL
            generalize BL.length = Y at *
            go_wp2_with (first | (show wpList _ _ _ (⟨some 21, _, _, _, _, _⟩ :: _) _ _; refine wpList_load_when (by rfl) TS (.tmp 3) rfl g1 f TS (by rfl) arr_TS hk3 ?_))
            refine (hhas.out wr).mono ?_
            rintro e w2 ⟨rfl, hb2⟩
            replace hB := Lib.hid (hB.out.trans (hb2.mono hB.out.size))
            replace Hcs := Lib.hid (Hcs.out.below hb2 hlb)
            clear hb2 hk3 hcell hlb
            go_wp2_with fail
            refine (hbeh.out w2 Hcs.out).mono ?_
            rintro e w3 ⟨⟨q2, r2, rfl, hcs3⟩, hw3⟩
            replace hB : Hid (Below w1.heap.size w1 w3) := by rw [← hw3]; exact hB.out.trans (Below.refl _ _).drew
            replace hcs3 : Cs w3 b q2 BL := by rw [← hw3]; exact hcs3
            clear hw3
            go_wp2_with fail
            refine (hnz.out _ _ w3 (by omega) (HL.out _ _ _ hcs3)).mono ?_
            rintro e w4 ⟨rfl, rfl⟩
            clear hcs3 hbeh hnz HL
            go_wp2
            go_roundw
            case rel => exact ⟨k + 1, A + Y, B + Z, rfl, rfl, by go_num, by omega, by omega, by omega, HA2, HB2, hB⟩
            case measure => simp [intOf]; omega
          · have h5' : ((m : Int) != 512) = true := by
              show (!(_ == _)) = true
              rw [beq_eq_false_iff_ne.2 (by omega)]; rfl
            have hst := hsn (by rw [decide_eq_false h5]; rfl)
            have HA2 := Lib.hid hst.1
            have HB2 := Lib.hid hst.2
            clear hst hsn hsy hA hBw hsrc hm hmc hcm hb8 h5
            go_wp2_with (first | (show wpList _ _ _ (⟨some 21, _, _, _, _, _⟩ :: _) _ _; refine wpList_load_when (by rfl) TS (.tmp 3) rfl g1 f TS (by rfl) arr_TS hk3 ?_))
            refine (hhas.out wr).mono ?_
            rintro e w2 ⟨rfl, hb2⟩
            replace hB := Lib.hid (hB.out.trans (hb2.mono hB.out.size))
            clear hb2 hk3 hcell
            go_wp2
            go_roundw
            case rel => exact ⟨k + 1, A, B, rfl, rfl, by go_num, by omega, by omega, by omega, HA2, HB2, hB⟩
            case measure => simp [intOf]; omega
    · obtain rfl : k = n := by omega
      go_wp2
      go_ret2
      exact ⟨by rw [hA.out, hBw.out]; rfl, H1.out.trans (hB.out.mono H1.out.size)⟩
end Go.Proofs.YtfjjfickbhkpaaaDoor
