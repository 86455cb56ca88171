/-
  ExtentTells: the law's walk (mketells.py).
-/
import Derived.Test.YtcimhcibkbbkdaaDoorSure16
import Derived.Test.YtcimhcibkbbkdaaDoorExtLaw
import Derived.Test.YtcimhcibkbbkdaaDoorRefX3
import Derived.Test.YtcimhcibkbbkdaaDoorRefX4
import Derived.Test.YtcimhcibkbbkdaaDoorRefX6
import Derived.Test.YtcimhcibkbbkdaaDoorGr
namespace Go.Proofs.YtcimhcibkbbkdaaDoor
open Go Go.RowKit

set_option maxRecDepth 100000 in
set_option maxHeartbeats 16000000 in
theorem etells_any (a : Option Addr) (n c : Nat) (l : List Xt) (p N : Int) (w : World) (hn : l.length = n) (hv : XV w (.slice a n c) l) (hl : n * 16 ≤ 140737488355328) (hr : ∀ x ∈ l, XOK x) (hN : N ≤ 9223372036854775807) (hg : Hg w) :
    Calls Tryd.prog 3 #[.slice a n c, .int .i64 p, .int .i64 N] w fun e w' => e = .returned (.bool true) ∧ Below w.heap.size w w' := by
  have HG : Hid (∀ W, Below w.heap.size w W → Hg W) := fun W hb => hg.below hb
  have Sure : Hid (∀ W, Below w.heap.size w W → Calls Tryd.prog 6 #[] W fun e w' => e = .returned (.bool true) ∧ Below W.heap.size W w') := fun W hb => xsure_any W (HG.out W hb)
  have HB : Hid (Below w.heap.size w w) := Below.refl _ _
  by_cases h60 : 60 < n
  · have d1 : decide ((60 : Int) < (n : Int)) = true := decide_eq_true (by omega)
    have d1' : decide (60 < n) = true := decide_eq_true h60
    clear hv hr hg hn
    go_enter Tryd.func3, Tryd.ntmps3
    go_wp2_with fail
    refine (Sure.out w HB.out).mono ?_
    rintro e w1 ⟨rfl, hb1⟩
    have Hb1 := Lib.hid hb1
    clear hb1
    go_wp2
    go_ret
    exact ⟨rfl, Hb1.out⟩
  · have d1 : decide ((60 : Int) < (n : Int)) = false := decide_eq_false (by omega)
    have d1' : decide (60 < n) = false := decide_eq_false h60
    have HV := Lib.hid hv
    have Hn := Lib.hid hn
    have Hr := Lib.hid hr
    have hn6 : n ≤ 60 := by omega
    have src : Hid (∀ W, XV W (.slice a n c) l → XS W a l) := fun W h => by
      obtain ⟨a', c', he, hs, _⟩ := h
      cases he; exact hs
    have hl6 : Hid (l.length * 16 ≤ 140737488355328) := by show l.length * 16 ≤ _; rw [Hn.out]; omega
    have Num : Hid (∀ W E, Below w.heap.size w W → Calls Tryd.prog 18 #[errC E] W fun e w' => e = .returned (.int .i64 E) ∧ Below W.heap.size W w') := fun W E hb => num_any (errC E) E W (errC_is E) (HG.out W hb)
    clear hv hr hg hn h60
    go_enter Tryd.func3, Tryd.ntmps3

    have HC := Lib.hid (xgive_any a n c l w Hn.out (src.out _ HV.out) (by omega))
    go_wp2_with fail
    refine HC.out.mono ?_
    rintro e w1 ⟨x, rfl, hx, hb⟩
    replace HB : Hid (Below w.heap.size w w1) := HB.out.trans (hb.mono HB.out.size)
    replace HV : Hid (XV w1 _ l) := HV.out.ext hb
    have HX := Lib.hid hx
    clear hb HC hx
    have HC := Lib.hid (xpage_any x l N w1 HX.out hl6.out Hr.out hN)
    go_wp2_with fail
    refine HC.out.mono ?_
    rintro e w2 ⟨rfl, hb⟩
    replace HB : Hid (Below w.heap.size w w2) := HB.out.trans (hb.mono HB.out.size)
    replace HV : Hid (XV w2 _ l) := HV.out.ext hb
    replace HX := Lib.hid (HX.out.ext hb)
    clear hb HC
    have HC := Lib.hid (xpageR_any a n c l N w2 Hn.out (src.out _ HV.out) (by omega) Hr.out)
    go_wp2_with fail
    refine HC.out.mono ?_
    rintro e w3 ⟨rfl, hb⟩
    replace HB : Hid (Below w.heap.size w w3) := HB.out.trans (hb.mono HB.out.size)
    replace HV : Hid (XV w3 _ l) := HV.out.ext hb
    replace HX := Lib.hid (HX.out.ext hb)
    clear hb HC
    have HC := Lib.hid (xnumber_any x l N w3 HX.out hl6.out Hr.out)
    go_wp2_with fail
    refine HC.out.mono ?_
    rintro e w4 ⟨rfl, hb⟩
    replace HB : Hid (Below w.heap.size w w4) := HB.out.trans (hb.mono HB.out.size)
    replace HV : Hid (XV w4 _ l) := HV.out.ext hb
    replace HX := Lib.hid (HX.out.ext hb)
    clear hb HC
    have HC := Lib.hid (xnumberR_any a n c l N w4 Hn.out (src.out _ HV.out) (by omega) Hr.out)
    go_wp2_with fail
    refine HC.out.mono ?_
    rintro e w5 ⟨rfl, hb⟩
    replace HB : Hid (Below w.heap.size w w5) := HB.out.trans (hb.mono HB.out.size)
    replace HV : Hid (XV w5 _ l) := HV.out.ext hb
    replace HX := Lib.hid (HX.out.ext hb)
    clear hb HC
    have HC := Lib.hid (xfree_any x l p w5 HX.out hl6.out Hr.out)
    go_wp2_with fail
    refine HC.out.mono ?_
    rintro e w6 ⟨u, rfl, hu, hb⟩
    replace HB : Hid (Below w.heap.size w w6) := HB.out.trans (hb.mono HB.out.size)
    replace HV : Hid (XV w6 _ l) := HV.out.ext hb
    replace HX := Lib.hid (HX.out.ext hb)
    have HU := Lib.hid hu
    clear hb HC hu
    have HC := Lib.hid (xfreeR_any a n c l p w6 Hn.out (src.out _ HV.out) (by omega) Hr.out)
    go_wp2_with fail
    refine HC.out.mono ?_
    rintro e w7 ⟨v, E, rfl, rfl, hv, hb⟩
    replace HB : Hid (Below w.heap.size w w7) := HB.out.trans (hb.mono HB.out.size)
    replace HV : Hid (XV w7 _ l) := HV.out.ext hb
    replace HX := Lib.hid (HX.out.ext hb)
    replace HU := Lib.hid (HU.out.ext hb)
    have HU2 := Lib.hid hv
    clear hb HC hv
    have HC := Lib.hid (xreserve_any x l N w7 HX.out hl6.out Hr.out hN)
    go_wp2_with fail
    refine HC.out.mono ?_
    rintro e w8 ⟨r, q, E, rfl, rfl, hr, hq, hb⟩
    replace HB : Hid (Below w.heap.size w w8) := HB.out.trans (hb.mono HB.out.size)
    replace HV : Hid (XV w8 _ l) := HV.out.ext hb
    replace HX := Lib.hid (HX.out.ext hb)
    replace HU := Lib.hid (HU.out.ext hb)
    replace HU2 := Lib.hid (HU2.out.ext hb)
    have HR := Lib.hid hr
    have HQ := Lib.hid hq
    clear hb HC hr hq
    have HC := Lib.hid (xreserveR_any a n c l N w8 Hn.out (src.out _ HV.out) (by omega) Hr.out hN)
    go_wp2_with fail
    refine HC.out.mono ?_
    rintro e w9 ⟨r2, q2, E, rfl, rfl, hr2, hq2, hb⟩
    replace HB : Hid (Below w.heap.size w w9) := HB.out.trans (hb.mono HB.out.size)
    replace HV : Hid (XV w9 _ l) := HV.out.ext hb
    replace HX := Lib.hid (HX.out.ext hb)
    replace HU := Lib.hid (HU.out.ext hb)
    replace HU2 := Lib.hid (HU2.out.ext hb)
    replace HR := Lib.hid (HR.out.ext hb)
    replace HQ := Lib.hid (HQ.out.ext hb)
    have HR2 := Lib.hid hr2
    have HQ2 := Lib.hid hq2
    clear hb HC hr2 hq2
    have HC := Lib.hid (xcheck_any x l p w9 HX.out hl6.out Hr.out)
    go_wp2_with fail
    refine HC.out.mono ?_
    rintro e w10 ⟨rfl, hb⟩
    replace HB : Hid (Below w.heap.size w w10) := HB.out.trans (hb.mono HB.out.size)
    replace HV : Hid (XV w10 _ l) := HV.out.ext hb
    replace HX := Lib.hid (HX.out.ext hb)
    replace HU := Lib.hid (HU.out.ext hb)
    replace HU2 := Lib.hid (HU2.out.ext hb)
    replace HR := Lib.hid (HR.out.ext hb)
    replace HQ := Lib.hid (HQ.out.ext hb)
    replace HR2 := Lib.hid (HR2.out.ext hb)
    replace HQ2 := Lib.hid (HQ2.out.ext hb)
    clear hb HC
    generalize xpgV l N = V1 at *
    generalize xpgE l N = E1 at *
    generalize xnuV l N = V2 at *
    generalize xnuE l N = E2 at *
    generalize xfreE l p = E3 at *
    generalize xrsE l N = E4 at *
    obtain ⟨R1, hR1⟩ : ∃ R1, errC E1 = R1 := ⟨_, rfl⟩
    obtain ⟨R2, hR2⟩ : ∃ R2, errC E2 = R2 := ⟨_, rfl⟩
    obtain ⟨R3, hR3⟩ : ∃ R3, errC E3 = R3 := ⟨_, rfl⟩
    obtain ⟨R4, hR4⟩ : ∃ R4, errC E4 = R4 := ⟨_, rfl⟩
    have Num1 := Lib.hid (fun W h => Num.out W E1 h)
    have Num2 := Lib.hid (fun W h => Num.out W E2 h)
    have Num3 := Lib.hid (fun W h => Num.out W E3 h)
    have Num4 := Lib.hid (fun W h => Num.out W E4 h)
    rw [hR1] at Num1
    rw [hR2] at Num2
    rw [hR3] at Num3
    rw [hR4] at Num4
    rw [hR1, hR2, hR3, hR4]
    obtain ⟨m, hm⟩ : ∃ m : Nat, (xpgs l).length = m := ⟨_, rfl⟩
    have hmm := Lib.hid (xpgs_len l)
    have Hm := Lib.hid hm
    rw [hm] at hmm
    clear hR1 hR2 hR3 hR4 hm
    by_cases hD : xmayB l p = true
    · have HD := Lib.hid hD
      rw [if_pos hD, errC_0]
      clear hD
      clear Num
      have hb : Below w10.heap.size w10 w10.drew := (Below.refl _ _).drew
      replace HB : Hid (Below w.heap.size w w10.drew) := HB.out.trans (hb.mono HB.out.size)
      replace HV : Hid (XV w10.drew _ l) := HV.out.ext hb
      replace HX := Lib.hid (HX.out.ext hb)
      replace HU := Lib.hid (HU.out.ext hb)
      replace HU2 := Lib.hid (HU2.out.ext hb)
      replace HR := Lib.hid (HR.out.ext hb)
      replace HQ := Lib.hid (HQ.out.ext hb)
      replace HR2 := Lib.hid (HR2.out.ext hb)
      replace HQ2 := Lib.hid (HQ2.out.ext hb)
      clear hb
      go_wp2_with fail
      refine wp_region_gr [(0, true), (1, true), (2, true), (3, true), (4, false), (5, true), (6, true), (7, true), (8, true), (9, true), (10, true), (11, false), (12, true), (13, true), (14, true), (15, true), (16, true), (18, true), (17, false), (19, false), (20, true), (21, true), (22, true)] (by kernel_rfl) (by kernel_rfl) (by kernel_rfl) (by kernel_rfl) (fun _ _ _ _ _ h => h) ?_
      have HM := Lib.hid (xmayR_any a n c l p w10.drew Hn.out (src.out _ HV.out) (by omega) Hr.out)
      rw [HD.out] at HM
      have HC := Lib.hid (HM.out)
      iterate 4 (refine wpGr_read (o := ⟨_, _, _, _, _, _⟩) (v := ?_) rfl (by rfl) ?_ ?_; rotate_left; (intro w' hw'; go_simp; with_reducible rfl); simp only [Act.put, List.setIfInBounds_toArray, List.set_cons_zero, List.set_cons_succ])
      refine wpGr_call (o := ⟨_, _, _, _, _, _⟩) rfl (by rfl) (fun K hK => ?_)
      go_simp
      refine HC.out.mono ?_
      rintro e w11 ⟨rfl, hb⟩
      refine hK _ _ hb ?_
      clear hK K
      replace HB : Hid (Below w.heap.size w w11) := HB.out.trans (hb.mono HB.out.size)
      replace HV : Hid (XV w11 _ l) := HV.out.ext hb
      replace HX := Lib.hid (HX.out.ext hb)
      replace HU := Lib.hid (HU.out.ext hb)
      replace HU2 := Lib.hid (HU2.out.ext hb)
      replace HR := Lib.hid (HR.out.ext hb)
      replace HQ := Lib.hid (HQ.out.ext hb)
      replace HR2 := Lib.hid (HR2.out.ext hb)
      replace HQ2 := Lib.hid (HQ2.out.ext hb)
      clear hb HC
      clear HM
      iterate 6 (first | (refine wpGr_read (o := ⟨_, _, _, _, _, _⟩) (v := ?_) rfl (by rfl) ?_ ?_; rotate_left; (intro w' hw'; go_simp; with_reducible rfl); simp only [Act.put, List.setIfInBounds_toArray, List.set_cons_zero, List.set_cons_succ]) | (refine wpGr_skip (o := ⟨_, _, _, _, _, _⟩) rfl (by rfl) ?_; simp only [Act.put, List.setIfInBounds_toArray, List.set_cons_zero, List.set_cons_succ]))
      refine wpGr_skipCall (o := ⟨_, _, _, _, _, _⟩) rfl (by rfl) ?_
      iterate 6 (first | (refine wpGr_read (o := ⟨_, _, _, _, _, _⟩) (v := ?_) rfl (by rfl) ?_ ?_; rotate_left; (intro w' hw'; go_simp; with_reducible rfl); simp only [Act.put, List.setIfInBounds_toArray, List.set_cons_zero, List.set_cons_succ]) | (refine wpGr_skip (o := ⟨_, _, _, _, _, _⟩) rfl (by rfl) ?_; simp only [Act.put, List.setIfInBounds_toArray, List.set_cons_zero, List.set_cons_succ]))
      have HM := Lib.hid (xmany_any x l w11 HX.out hl6.out Hr.out)
      rw [← hmm.out] at HM
      have HC := Lib.hid (HM.out)
      skip
      refine wpGr_call (o := ⟨_, _, _, _, _, _⟩) rfl (by rfl) (fun K hK => ?_)
      go_simp
      refine HC.out.mono ?_
      rintro e w12 ⟨rfl, hb⟩
      refine hK _ _ hb ?_
      clear hK K
      replace HB : Hid (Below w.heap.size w w12) := HB.out.trans (hb.mono HB.out.size)
      replace HV : Hid (XV w12 _ l) := HV.out.ext hb
      replace HX := Lib.hid (HX.out.ext hb)
      replace HU := Lib.hid (HU.out.ext hb)
      replace HU2 := Lib.hid (HU2.out.ext hb)
      replace HR := Lib.hid (HR.out.ext hb)
      replace HQ := Lib.hid (HQ.out.ext hb)
      replace HR2 := Lib.hid (HR2.out.ext hb)
      replace HQ2 := Lib.hid (HQ2.out.ext hb)
      clear hb HC
      clear HM
      have HP := Lib.hid (xpages_any a n c l w12 Hn.out (src.out _ HV.out) (by omega) Hr.out)
      have HC := Lib.hid (HP.out)
      skip
      refine wpGr_call (o := ⟨_, _, _, _, _, _⟩) rfl (by rfl) (fun K hK => ?_)
      go_simp
      refine HC.out.mono ?_
      rintro e w13 ⟨pv, rfl, hpv, hb⟩
      obtain ⟨ap, cp, rfl, _, _, _, _⟩ := own_pages hpv
      rw [Hm.out]
      clear hpv
      refine hK _ _ hb ?_
      clear hK K
      replace HB : Hid (Below w.heap.size w w13) := HB.out.trans (hb.mono HB.out.size)
      replace HV : Hid (XV w13 _ l) := HV.out.ext hb
      replace HX := Lib.hid (HX.out.ext hb)
      replace HU := Lib.hid (HU.out.ext hb)
      replace HU2 := Lib.hid (HU2.out.ext hb)
      replace HR := Lib.hid (HR.out.ext hb)
      replace HQ := Lib.hid (HQ.out.ext hb)
      replace HR2 := Lib.hid (HR2.out.ext hb)
      replace HQ2 := Lib.hid (HQ2.out.ext hb)
      clear hb HC
      clear HP
      iterate 3 (first | (refine wpGr_read (o := ⟨_, _, _, _, _, _⟩) (v := ?_) rfl (by rfl) ?_ ?_; rotate_left; (intro w' hw'; go_simp; with_reducible rfl); simp only [Act.put, List.setIfInBounds_toArray, List.set_cons_zero, List.set_cons_succ]) | (refine wpGr_skip (o := ⟨_, _, _, _, _, _⟩) rfl (by rfl) ?_; simp only [Act.put, List.setIfInBounds_toArray, List.set_cons_zero, List.set_cons_succ]))
      refine wpGr_done ?_
      have HC := Lib.hid (Num1.out w13 HB.out)
      go_wp2_with fail
      refine HC.out.mono ?_
      rintro e w14 ⟨rfl, hb⟩
      replace HB : Hid (Below w.heap.size w w14) := HB.out.trans (hb.mono HB.out.size)
      replace HV : Hid (XV w14 _ l) := HV.out.ext hb
      replace HX := Lib.hid (HX.out.ext hb)
      replace HU := Lib.hid (HU.out.ext hb)
      replace HU2 := Lib.hid (HU2.out.ext hb)
      replace HR := Lib.hid (HR.out.ext hb)
      replace HQ := Lib.hid (HQ.out.ext hb)
      replace HR2 := Lib.hid (HR2.out.ext hb)
      replace HQ2 := Lib.hid (HQ2.out.ext hb)
      clear hb HC
      have HC := Lib.hid (Num2.out w14 HB.out)
      go_wp2_with fail
      refine HC.out.mono ?_
      rintro e w15 ⟨rfl, hb⟩
      replace HB : Hid (Below w.heap.size w w15) := HB.out.trans (hb.mono HB.out.size)
      replace HV : Hid (XV w15 _ l) := HV.out.ext hb
      replace HX := Lib.hid (HX.out.ext hb)
      replace HU := Lib.hid (HU.out.ext hb)
      replace HU2 := Lib.hid (HU2.out.ext hb)
      replace HR := Lib.hid (HR.out.ext hb)
      replace HQ := Lib.hid (HQ.out.ext hb)
      replace HR2 := Lib.hid (HR2.out.ext hb)
      replace HQ2 := Lib.hid (HQ2.out.ext hb)
      clear hb HC
      have HC := Lib.hid (xare_any u v _ w15 HU.out HU2.out.xv)
      go_wp2_with fail
      refine HC.out.mono ?_
      rintro e w16 ⟨rfl, hb⟩
      replace HB : Hid (Below w.heap.size w w16) := HB.out.trans (hb.mono HB.out.size)
      replace HV : Hid (XV w16 _ l) := HV.out.ext hb
      replace HX := Lib.hid (HX.out.ext hb)
      replace HU := Lib.hid (HU.out.ext hb)
      replace HU2 := Lib.hid (HU2.out.ext hb)
      replace HR := Lib.hid (HR.out.ext hb)
      replace HQ := Lib.hid (HQ.out.ext hb)
      replace HR2 := Lib.hid (HR2.out.ext hb)
      replace HQ2 := Lib.hid (HQ2.out.ext hb)
      clear hb HC
      have HC := Lib.hid (Num3.out w16 HB.out)
      go_wp2_with fail
      refine HC.out.mono ?_
      rintro e w17 ⟨rfl, hb⟩
      replace HB : Hid (Below w.heap.size w w17) := HB.out.trans (hb.mono HB.out.size)
      replace HV : Hid (XV w17 _ l) := HV.out.ext hb
      replace HX := Lib.hid (HX.out.ext hb)
      replace HU := Lib.hid (HU.out.ext hb)
      replace HU2 := Lib.hid (HU2.out.ext hb)
      replace HR := Lib.hid (HR.out.ext hb)
      replace HQ := Lib.hid (HQ.out.ext hb)
      replace HR2 := Lib.hid (HR2.out.ext hb)
      replace HQ2 := Lib.hid (HQ2.out.ext hb)
      clear hb HC
      have HC := Lib.hid (xare_any r r2 _ w17 HR.out HR2.out.xv)
      go_wp2_with fail
      refine HC.out.mono ?_
      rintro e w18 ⟨rfl, hb⟩
      replace HB : Hid (Below w.heap.size w w18) := HB.out.trans (hb.mono HB.out.size)
      replace HV : Hid (XV w18 _ l) := HV.out.ext hb
      replace HX := Lib.hid (HX.out.ext hb)
      replace HU := Lib.hid (HU.out.ext hb)
      replace HU2 := Lib.hid (HU2.out.ext hb)
      replace HR := Lib.hid (HR.out.ext hb)
      replace HQ := Lib.hid (HQ.out.ext hb)
      replace HR2 := Lib.hid (HR2.out.ext hb)
      replace HQ2 := Lib.hid (HQ2.out.ext hb)
      clear hb HC
      have HC := Lib.hid (xare_any q q2 _ w18 HQ.out HQ2.out.xv)
      go_wp2_with fail
      refine HC.out.mono ?_
      rintro e w19 ⟨rfl, hb⟩
      replace HB : Hid (Below w.heap.size w w19) := HB.out.trans (hb.mono HB.out.size)
      replace HV : Hid (XV w19 _ l) := HV.out.ext hb
      replace HX := Lib.hid (HX.out.ext hb)
      replace HU := Lib.hid (HU.out.ext hb)
      replace HU2 := Lib.hid (HU2.out.ext hb)
      replace HR := Lib.hid (HR.out.ext hb)
      replace HQ := Lib.hid (HQ.out.ext hb)
      replace HR2 := Lib.hid (HR2.out.ext hb)
      replace HQ2 := Lib.hid (HQ2.out.ext hb)
      clear hb HC
      have HC := Lib.hid (Num4.out w19 HB.out)
      go_wp2_with fail
      refine HC.out.mono ?_
      rintro e w20 ⟨rfl, hb⟩
      replace HB : Hid (Below w.heap.size w w20) := HB.out.trans (hb.mono HB.out.size)
      replace HV : Hid (XV w20 _ l) := HV.out.ext hb
      replace HX := Lib.hid (HX.out.ext hb)
      replace HU := Lib.hid (HU.out.ext hb)
      replace HU2 := Lib.hid (HU2.out.ext hb)
      replace HR := Lib.hid (HR.out.ext hb)
      replace HQ := Lib.hid (HQ.out.ext hb)
      replace HR2 := Lib.hid (HR2.out.ext hb)
      replace HQ2 := Lib.hid (HQ2.out.ext hb)
      clear hb HC
      have HC := Lib.hid (xare_any x (.slice a n c) l w20 HX.out HV.out)
      go_wp2_with fail
      refine HC.out.mono ?_
      rintro e w21 ⟨rfl, hb⟩
      replace HB : Hid (Below w.heap.size w w21) := HB.out.trans (hb.mono HB.out.size)
      replace HV : Hid (XV w21 _ l) := HV.out.ext hb
      replace HX := Lib.hid (HX.out.ext hb)
      replace HU := Lib.hid (HU.out.ext hb)
      replace HU2 := Lib.hid (HU2.out.ext hb)
      replace HR := Lib.hid (HR.out.ext hb)
      replace HQ := Lib.hid (HQ.out.ext hb)
      replace HR2 := Lib.hid (HR2.out.ext hb)
      replace HQ2 := Lib.hid (HQ2.out.ext hb)
      clear hb HC
      have HC := Lib.hid (Sure.out w21 HB.out)
      go_wp2_with fail
      refine HC.out.mono ?_
      rintro e w22 ⟨rfl, hb⟩
      replace HB : Hid (Below w.heap.size w w22) := HB.out.trans (hb.mono HB.out.size)
      replace HV : Hid (XV w22 _ l) := HV.out.ext hb
      replace HX := Lib.hid (HX.out.ext hb)
      replace HU := Lib.hid (HU.out.ext hb)
      replace HU2 := Lib.hid (HU2.out.ext hb)
      replace HR := Lib.hid (HR.out.ext hb)
      replace HQ := Lib.hid (HQ.out.ext hb)
      replace HR2 := Lib.hid (HR2.out.ext hb)
      replace HQ2 := Lib.hid (HQ2.out.ext hb)
      clear hb HC
      go_wp2
      go_ret
      exact ⟨rfl, HB.out⟩
    · have HD := Lib.hid (Bool.eq_false_iff.2 hD)
      rw [if_neg hD, errC_1]
      clear hD
      have NumC : Hid (∀ W, Below w.heap.size w W → Calls Tryd.prog 18 #[.iface 54 (.int .i64 1)] W fun e w' => e = .returned (.int .i64 1) ∧ Below W.heap.size W w') := fun W hb => Num.out W 1 hb
      clear Num
      have hb : Below w10.heap.size w10 w10.drew := (Below.refl _ _).drew
      replace HB : Hid (Below w.heap.size w w10.drew) := HB.out.trans (hb.mono HB.out.size)
      replace HV : Hid (XV w10.drew _ l) := HV.out.ext hb
      replace HX := Lib.hid (HX.out.ext hb)
      replace HU := Lib.hid (HU.out.ext hb)
      replace HU2 := Lib.hid (HU2.out.ext hb)
      replace HR := Lib.hid (HR.out.ext hb)
      replace HQ := Lib.hid (HQ.out.ext hb)
      replace HR2 := Lib.hid (HR2.out.ext hb)
      replace HQ2 := Lib.hid (HQ2.out.ext hb)
      clear hb
      go_wp2_with fail
      refine wp_region_gr [(0, true), (1, true), (2, true), (3, true), (4, false), (5, true), (6, true), (7, true), (8, true), (9, true), (10, true), (11, false), (12, true), (13, true), (14, true), (15, true), (16, true), (18, true), (17, false), (19, false), (20, true), (21, true), (22, true)] (by kernel_rfl) (by kernel_rfl) (by kernel_rfl) (by kernel_rfl) (fun _ _ _ _ _ h => h) ?_
      have HM := Lib.hid (xmayR_any a n c l p w10.drew Hn.out (src.out _ HV.out) (by omega) Hr.out)
      rw [HD.out] at HM
      have HC := Lib.hid (HM.out)
      iterate 4 (refine wpGr_read (o := ⟨_, _, _, _, _, _⟩) (v := ?_) rfl (by rfl) ?_ ?_; rotate_left; (intro w' hw'; go_simp; with_reducible rfl); simp only [Act.put, List.setIfInBounds_toArray, List.set_cons_zero, List.set_cons_succ])
      refine wpGr_call (o := ⟨_, _, _, _, _, _⟩) rfl (by rfl) (fun K hK => ?_)
      go_simp
      refine HC.out.mono ?_
      rintro e w11 ⟨rfl, hb⟩
      refine hK _ _ hb ?_
      clear hK K
      replace HB : Hid (Below w.heap.size w w11) := HB.out.trans (hb.mono HB.out.size)
      replace HV : Hid (XV w11 _ l) := HV.out.ext hb
      replace HX := Lib.hid (HX.out.ext hb)
      replace HU := Lib.hid (HU.out.ext hb)
      replace HU2 := Lib.hid (HU2.out.ext hb)
      replace HR := Lib.hid (HR.out.ext hb)
      replace HQ := Lib.hid (HQ.out.ext hb)
      replace HR2 := Lib.hid (HR2.out.ext hb)
      replace HQ2 := Lib.hid (HQ2.out.ext hb)
      clear hb HC
      clear HM
      have HC := Lib.hid (NumC.out w11 HB.out)
      iterate 6 (first | (refine wpGr_read (o := ⟨_, _, _, _, _, _⟩) (v := ?_) rfl (by rfl) ?_ ?_; rotate_left; (intro w' hw'; go_simp; with_reducible rfl); simp only [Act.put, List.setIfInBounds_toArray, List.set_cons_zero, List.set_cons_succ]) | (refine wpGr_skip (o := ⟨_, _, _, _, _, _⟩) rfl (by rfl) ?_; simp only [Act.put, List.setIfInBounds_toArray, List.set_cons_zero, List.set_cons_succ]))
      refine wpGr_call (o := ⟨_, _, _, _, _, _⟩) rfl (by rfl) (fun K hK => ?_)
      go_simp
      refine HC.out.mono ?_
      rintro e w12 ⟨rfl, hb⟩
      refine hK _ _ hb ?_
      clear hK K
      replace HB : Hid (Below w.heap.size w w12) := HB.out.trans (hb.mono HB.out.size)
      replace HV : Hid (XV w12 _ l) := HV.out.ext hb
      replace HX := Lib.hid (HX.out.ext hb)
      replace HU := Lib.hid (HU.out.ext hb)
      replace HU2 := Lib.hid (HU2.out.ext hb)
      replace HR := Lib.hid (HR.out.ext hb)
      replace HQ := Lib.hid (HQ.out.ext hb)
      replace HR2 := Lib.hid (HR2.out.ext hb)
      replace HQ2 := Lib.hid (HQ2.out.ext hb)
      clear hb HC
      have HM := Lib.hid (xmany_any x l w12 HX.out hl6.out Hr.out)
      rw [← hmm.out] at HM
      have HC := Lib.hid (HM.out)
      iterate 6 (first | (refine wpGr_read (o := ⟨_, _, _, _, _, _⟩) (v := ?_) rfl (by rfl) ?_ ?_; rotate_left; (intro w' hw'; go_simp; with_reducible rfl); simp only [Act.put, List.setIfInBounds_toArray, List.set_cons_zero, List.set_cons_succ]) | (refine wpGr_skip (o := ⟨_, _, _, _, _, _⟩) rfl (by rfl) ?_; simp only [Act.put, List.setIfInBounds_toArray, List.set_cons_zero, List.set_cons_succ]))
      refine wpGr_call (o := ⟨_, _, _, _, _, _⟩) rfl (by rfl) (fun K hK => ?_)
      go_simp
      refine HC.out.mono ?_
      rintro e w13 ⟨rfl, hb⟩
      refine hK _ _ hb ?_
      clear hK K
      replace HB : Hid (Below w.heap.size w w13) := HB.out.trans (hb.mono HB.out.size)
      replace HV : Hid (XV w13 _ l) := HV.out.ext hb
      replace HX := Lib.hid (HX.out.ext hb)
      replace HU := Lib.hid (HU.out.ext hb)
      replace HU2 := Lib.hid (HU2.out.ext hb)
      replace HR := Lib.hid (HR.out.ext hb)
      replace HQ := Lib.hid (HQ.out.ext hb)
      replace HR2 := Lib.hid (HR2.out.ext hb)
      replace HQ2 := Lib.hid (HQ2.out.ext hb)
      clear hb HC
      clear HM
      have HP := Lib.hid (xpages_any a n c l w13 Hn.out (src.out _ HV.out) (by omega) Hr.out)
      have HC := Lib.hid (HP.out)
      skip
      refine wpGr_call (o := ⟨_, _, _, _, _, _⟩) rfl (by rfl) (fun K hK => ?_)
      go_simp
      refine HC.out.mono ?_
      rintro e w14 ⟨pv, rfl, hpv, hb⟩
      obtain ⟨ap, cp, rfl, _, _, _, _⟩ := own_pages hpv
      rw [Hm.out]
      clear hpv
      refine hK _ _ hb ?_
      clear hK K
      replace HB : Hid (Below w.heap.size w w14) := HB.out.trans (hb.mono HB.out.size)
      replace HV : Hid (XV w14 _ l) := HV.out.ext hb
      replace HX := Lib.hid (HX.out.ext hb)
      replace HU := Lib.hid (HU.out.ext hb)
      replace HU2 := Lib.hid (HU2.out.ext hb)
      replace HR := Lib.hid (HR.out.ext hb)
      replace HQ := Lib.hid (HQ.out.ext hb)
      replace HR2 := Lib.hid (HR2.out.ext hb)
      replace HQ2 := Lib.hid (HQ2.out.ext hb)
      clear hb HC
      clear HP
      iterate 3 (first | (refine wpGr_read (o := ⟨_, _, _, _, _, _⟩) (v := ?_) rfl (by rfl) ?_ ?_; rotate_left; (intro w' hw'; go_simp; with_reducible rfl); simp only [Act.put, List.setIfInBounds_toArray, List.set_cons_zero, List.set_cons_succ]) | (refine wpGr_skip (o := ⟨_, _, _, _, _, _⟩) rfl (by rfl) ?_; simp only [Act.put, List.setIfInBounds_toArray, List.set_cons_zero, List.set_cons_succ]))
      refine wpGr_done ?_
      have HC := Lib.hid (Num1.out w14 HB.out)
      go_wp2_with fail
      refine HC.out.mono ?_
      rintro e w15 ⟨rfl, hb⟩
      replace HB : Hid (Below w.heap.size w w15) := HB.out.trans (hb.mono HB.out.size)
      replace HV : Hid (XV w15 _ l) := HV.out.ext hb
      replace HX := Lib.hid (HX.out.ext hb)
      replace HU := Lib.hid (HU.out.ext hb)
      replace HU2 := Lib.hid (HU2.out.ext hb)
      replace HR := Lib.hid (HR.out.ext hb)
      replace HQ := Lib.hid (HQ.out.ext hb)
      replace HR2 := Lib.hid (HR2.out.ext hb)
      replace HQ2 := Lib.hid (HQ2.out.ext hb)
      clear hb HC
      have HC := Lib.hid (Num2.out w15 HB.out)
      go_wp2_with fail
      refine HC.out.mono ?_
      rintro e w16 ⟨rfl, hb⟩
      replace HB : Hid (Below w.heap.size w w16) := HB.out.trans (hb.mono HB.out.size)
      replace HV : Hid (XV w16 _ l) := HV.out.ext hb
      replace HX := Lib.hid (HX.out.ext hb)
      replace HU := Lib.hid (HU.out.ext hb)
      replace HU2 := Lib.hid (HU2.out.ext hb)
      replace HR := Lib.hid (HR.out.ext hb)
      replace HQ := Lib.hid (HQ.out.ext hb)
      replace HR2 := Lib.hid (HR2.out.ext hb)
      replace HQ2 := Lib.hid (HQ2.out.ext hb)
      clear hb HC
      have HC := Lib.hid (xare_any u v _ w16 HU.out HU2.out.xv)
      go_wp2_with fail
      refine HC.out.mono ?_
      rintro e w17 ⟨rfl, hb⟩
      replace HB : Hid (Below w.heap.size w w17) := HB.out.trans (hb.mono HB.out.size)
      replace HV : Hid (XV w17 _ l) := HV.out.ext hb
      replace HX := Lib.hid (HX.out.ext hb)
      replace HU := Lib.hid (HU.out.ext hb)
      replace HU2 := Lib.hid (HU2.out.ext hb)
      replace HR := Lib.hid (HR.out.ext hb)
      replace HQ := Lib.hid (HQ.out.ext hb)
      replace HR2 := Lib.hid (HR2.out.ext hb)
      replace HQ2 := Lib.hid (HQ2.out.ext hb)
      clear hb HC
      have HC := Lib.hid (Num3.out w17 HB.out)
      go_wp2_with fail
      refine HC.out.mono ?_
      rintro e w18 ⟨rfl, hb⟩
      replace HB : Hid (Below w.heap.size w w18) := HB.out.trans (hb.mono HB.out.size)
      replace HV : Hid (XV w18 _ l) := HV.out.ext hb
      replace HX := Lib.hid (HX.out.ext hb)
      replace HU := Lib.hid (HU.out.ext hb)
      replace HU2 := Lib.hid (HU2.out.ext hb)
      replace HR := Lib.hid (HR.out.ext hb)
      replace HQ := Lib.hid (HQ.out.ext hb)
      replace HR2 := Lib.hid (HR2.out.ext hb)
      replace HQ2 := Lib.hid (HQ2.out.ext hb)
      clear hb HC
      have HC := Lib.hid (xare_any r r2 _ w18 HR.out HR2.out.xv)
      go_wp2_with fail
      refine HC.out.mono ?_
      rintro e w19 ⟨rfl, hb⟩
      replace HB : Hid (Below w.heap.size w w19) := HB.out.trans (hb.mono HB.out.size)
      replace HV : Hid (XV w19 _ l) := HV.out.ext hb
      replace HX := Lib.hid (HX.out.ext hb)
      replace HU := Lib.hid (HU.out.ext hb)
      replace HU2 := Lib.hid (HU2.out.ext hb)
      replace HR := Lib.hid (HR.out.ext hb)
      replace HQ := Lib.hid (HQ.out.ext hb)
      replace HR2 := Lib.hid (HR2.out.ext hb)
      replace HQ2 := Lib.hid (HQ2.out.ext hb)
      clear hb HC
      have HC := Lib.hid (xare_any q q2 _ w19 HQ.out HQ2.out.xv)
      go_wp2_with fail
      refine HC.out.mono ?_
      rintro e w20 ⟨rfl, hb⟩
      replace HB : Hid (Below w.heap.size w w20) := HB.out.trans (hb.mono HB.out.size)
      replace HV : Hid (XV w20 _ l) := HV.out.ext hb
      replace HX := Lib.hid (HX.out.ext hb)
      replace HU := Lib.hid (HU.out.ext hb)
      replace HU2 := Lib.hid (HU2.out.ext hb)
      replace HR := Lib.hid (HR.out.ext hb)
      replace HQ := Lib.hid (HQ.out.ext hb)
      replace HR2 := Lib.hid (HR2.out.ext hb)
      replace HQ2 := Lib.hid (HQ2.out.ext hb)
      clear hb HC
      have HC := Lib.hid (Num4.out w20 HB.out)
      go_wp2_with fail
      refine HC.out.mono ?_
      rintro e w21 ⟨rfl, hb⟩
      replace HB : Hid (Below w.heap.size w w21) := HB.out.trans (hb.mono HB.out.size)
      replace HV : Hid (XV w21 _ l) := HV.out.ext hb
      replace HX := Lib.hid (HX.out.ext hb)
      replace HU := Lib.hid (HU.out.ext hb)
      replace HU2 := Lib.hid (HU2.out.ext hb)
      replace HR := Lib.hid (HR.out.ext hb)
      replace HQ := Lib.hid (HQ.out.ext hb)
      replace HR2 := Lib.hid (HR2.out.ext hb)
      replace HQ2 := Lib.hid (HQ2.out.ext hb)
      clear hb HC
      have HC := Lib.hid (xare_any x (.slice a n c) l w21 HX.out HV.out)
      go_wp2_with fail
      refine HC.out.mono ?_
      rintro e w22 ⟨rfl, hb⟩
      replace HB : Hid (Below w.heap.size w w22) := HB.out.trans (hb.mono HB.out.size)
      replace HV : Hid (XV w22 _ l) := HV.out.ext hb
      replace HX := Lib.hid (HX.out.ext hb)
      replace HU := Lib.hid (HU.out.ext hb)
      replace HU2 := Lib.hid (HU2.out.ext hb)
      replace HR := Lib.hid (HR.out.ext hb)
      replace HQ := Lib.hid (HQ.out.ext hb)
      replace HR2 := Lib.hid (HR2.out.ext hb)
      replace HQ2 := Lib.hid (HQ2.out.ext hb)
      clear hb HC
      have HC := Lib.hid (Sure.out w22 HB.out)
      go_wp2_with fail
      refine HC.out.mono ?_
      rintro e w23 ⟨rfl, hb⟩
      replace HB : Hid (Below w.heap.size w w23) := HB.out.trans (hb.mono HB.out.size)
      replace HV : Hid (XV w23 _ l) := HV.out.ext hb
      replace HX := Lib.hid (HX.out.ext hb)
      replace HU := Lib.hid (HU.out.ext hb)
      replace HU2 := Lib.hid (HU2.out.ext hb)
      replace HR := Lib.hid (HR.out.ext hb)
      replace HQ := Lib.hid (HQ.out.ext hb)
      replace HR2 := Lib.hid (HR2.out.ext hb)
      replace HQ2 := Lib.hid (HQ2.out.ext hb)
      clear hb HC
      go_wp2
      go_ret
      exact ⟨rfl, HB.out⟩
end Go.Proofs.YtcimhcibkbbkdaaDoor
