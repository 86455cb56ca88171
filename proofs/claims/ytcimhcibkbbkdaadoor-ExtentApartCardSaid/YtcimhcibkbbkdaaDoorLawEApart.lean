/-
  ExtentApart: the law's walk (mkeapart.py).
-/
import Derived.Test.YtcimhcibkbbkdaaDoorSure16
import Derived.Test.YtcimhcibkbbkdaaDoorExtLaw
import Derived.Test.YtcimhcibkbbkdaaDoorGr
namespace Go.Proofs.YtcimhcibkbbkdaaDoor
open Go Go.RowKit

/-- The pages of two numbers are two. -/
theorem xpg_inj {l : List Xt} {p : Int} (h : XMay l p) {i k : Int} {v u : Int} (hi : 0 ≤ i) (hi2 : i < xsumM l) (hk : 0 ≤ k) (hk2 : k < xsumM l) (hv : xpgF l i = some v) (hu : xpgF l k = some u) : v = u ↔ i = k := by
  have h1 := xnu_pg l i 0 v h.par (fun x hx => (h.ins x hx).2.1) hi hi2 hv
  have h2 := xnu_pg l k 0 u h.par (fun x hx => (h.ins x hx).2.1) hk hk2 hu
  constructor
  · rintro rfl
    rw [h1] at h2
    injection h2 with h2
    omega
  · rintro rfl
    rw [hv] at hu
    injection hu
set_option maxRecDepth 100000 in
set_option maxHeartbeats 16000000 in
theorem eapart_any (a : Option Addr) (n c : Nat) (l : List Xt) (A B : Nat) (w : World) (hn : l.length = n) (hv : XV w (.slice a n c) l) (hl : n * 16 ≤ 140737488355328) (hr : ∀ x ∈ l, XOK x) (hA : A ≤ 255) (hB : B ≤ 255) (hg : Hg w) :
    Calls Tryd.prog 5 #[.slice a n c, .int .u8 A, .int .u8 B] w fun e w' => e = .returned (.bool true) ∧ Below w.heap.size w w' := by
  have HG : Hid (∀ W, Below w.heap.size w W → Hg W) := fun W hb => hg.below hb
  have Sure : Hid (∀ W, Below w.heap.size w W → Calls Tryd.prog 6 #[] W fun e w' => e = .returned (.bool true) ∧ Below W.heap.size W w') := fun W hb => xsure_any W (HG.out W hb)
  have HB : Hid (Below w.heap.size w w) := Below.refl _ _
  have HV := Lib.hid hv
  have Hn := Lib.hid hn
  have Hr := Lib.hid hr
  have hl6 : Hid (l.length * 16 ≤ 140737488355328) := by show l.length * 16 ≤ _; rw [Hn.out]; exact hl
  have src : Hid (∀ W, XV W (.slice a n c) l → XS W a l) := fun W h => by
    obtain ⟨a', c', he, hs, _⟩ := h
    cases he; exact hs
  obtain ⟨S, hS⟩ : ∃ S, xmanS l = S := ⟨_, rfl⟩
  have HS := Lib.hid hS
  clear hv hr hg hn hS
  by_cases h60 : 60 < n
  · have d1 : decide ((60 : Int) < (n : Int)) = true := decide_eq_true (by omega)
    have d1' : decide (60 < n) = true := decide_eq_true h60
    clear h60
    go_enter Tryd.func5, Tryd.ntmps5
    have HC := Lib.hid (xgive_any a n c l w Hn.out (src.out _ HV.out) hl)
    go_wp2_with fail
    refine HC.out.mono ?_
    rintro e w1 ⟨x, rfl, hx, hb⟩
    replace HB : Hid (Below w.heap.size w w1) := HB.out.trans (hb.mono HB.out.size)
    replace HV : Hid (XV w1 _ l) := HV.out.ext hb
    have HX := Lib.hid hx
    clear hb HC hx
    have HM := Lib.hid (xmany_any x l w1 HX.out hl6.out Hr.out)
    rw [HS.out] at HM
    have HC := Lib.hid (HM.out)
    go_wp2_with fail
    refine HC.out.mono ?_
    rintro e w2 ⟨rfl, hb⟩
    replace HB : Hid (Below w.heap.size w w2) := HB.out.trans (hb.mono HB.out.size)
    replace HV : Hid (XV w2 _ l) := HV.out.ext hb
    replace HX := Lib.hid (HX.out.ext hb)
    clear hb HC
    clear HM
    have HC := Lib.hid (Sure.out w2 HB.out)
    go_wp2_with fail
    refine HC.out.mono ?_
    rintro e w3 ⟨rfl, hb⟩
    replace HB : Hid (Below w.heap.size w w3) := HB.out.trans (hb.mono HB.out.size)
    replace HV : Hid (XV w3 _ l) := HV.out.ext hb
    replace HX := Lib.hid (HX.out.ext hb)
    clear hb HC
    go_wp2
    go_ret
    exact ⟨rfl, HB.out⟩
  · have d1 : decide ((60 : Int) < (n : Int)) = false := decide_eq_false (by omega)
    have d1' : decide (60 < n) = false := decide_eq_false h60
    by_cases hm : xmayB l 1024 = true
    · have hM := (xmayB_iff _ _).1 hm
      have hS2 : S = xsumM l := by rw [← HS.out]; unfold xmanS; rw [if_pos hm]
      have hS3 := hM.sum
      rw [← hS2] at hS3
      obtain ⟨s, hs⟩ := Int.eq_ofNat_of_zero_le hS3.1
      rw [hs] at hS2 hS3
      have HM := Lib.hid hM
      have HS2 := Lib.hid hS2
      have Hm := Lib.hid hm
      rw [hs] at HS
      by_cases h0 : s = 0
      · subst h0
        clear hm hM hS2 hS3 hs h60
        go_enter Tryd.func5, Tryd.ntmps5
        have HC := Lib.hid (xgive_any a n c l w Hn.out (src.out _ HV.out) hl)
        go_wp2_with fail
        refine HC.out.mono ?_
        rintro e w1 ⟨x, rfl, hx, hb⟩
        replace HB : Hid (Below w.heap.size w w1) := HB.out.trans (hb.mono HB.out.size)
        replace HV : Hid (XV w1 _ l) := HV.out.ext hb
        have HX := Lib.hid hx
        clear hb HC hx
        have HM := Lib.hid (xmany_any x l w1 HX.out hl6.out Hr.out)
        rw [HS.out] at HM
        have HC := Lib.hid (HM.out)
        go_wp2_with fail
        refine HC.out.mono ?_
        rintro e w2 ⟨rfl, hb⟩
        replace HB : Hid (Below w.heap.size w w2) := HB.out.trans (hb.mono HB.out.size)
        replace HV : Hid (XV w2 _ l) := HV.out.ext hb
        replace HX := Lib.hid (HX.out.ext hb)
        clear hb HC
        clear HM
        have HC2 := Lib.hid (xcheck_any x l 1024 w2 HX.out hl6.out Hr.out)
        rw [if_pos Hm.out, errC_0] at HC2
        have HC := Lib.hid (HC2.out)
        go_wp2_with fail
        refine HC.out.mono ?_
        rintro e w3 ⟨rfl, hb⟩
        replace HB : Hid (Below w.heap.size w w3) := HB.out.trans (hb.mono HB.out.size)
        replace HV : Hid (XV w3 _ l) := HV.out.ext hb
        replace HX := Lib.hid (HX.out.ext hb)
        clear hb HC
        clear HC2
        have HC := Lib.hid (Sure.out w3 HB.out)
        go_wp2_with fail
        refine HC.out.mono ?_
        rintro e w4 ⟨rfl, hb⟩
        replace HB : Hid (Below w.heap.size w w4) := HB.out.trans (hb.mono HB.out.size)
        replace HV : Hid (XV w4 _ l) := HV.out.ext hb
        replace HX := Lib.hid (HX.out.ext hb)
        clear hb HC
        go_wp2
        go_ret
        exact ⟨rfl, HB.out⟩
      · have e0 : ((s : Int) == 0) = false := by rw [beq_eq_false_iff_ne]; omega
        have e0' : (s == 0) = false := by rw [beq_eq_false_iff_ne]; omega
        have e0'' : ¬ (s : Int) = 0 := by omega
        have hs9 : s ≤ 1024 := by omega
        obtain ⟨I, hI⟩ : ∃ I, I = A % s := ⟨_, rfl⟩
        obtain ⟨K, hK9⟩ : ∃ K, K = B % s := ⟨_, rfl⟩
        have eI : (A : Int).tmod (s : Int) = (I : Int) := by rw [Int.tmod_eq_emod_of_nonneg (by omega), hI]; omega
        have eK : (B : Int).tmod (s : Int) = (K : Int) := by rw [Int.tmod_eq_emod_of_nonneg (by omega), hK9]; omega
        have hI2 : I < s := by rw [hI]; exact Nat.mod_lt _ (by omega)
        have hK2 : K < s := by rw [hK9]; exact Nat.mod_lt _ (by omega)
        have wA : IntKind.i64.wrap (A : Int) = (A : Int) := by rw [IntKind.wrap_i64]; omega
        have wB : IntKind.i64.wrap (B : Int) = (B : Int) := by rw [IntKind.wrap_i64]; omega
        obtain ⟨p, hp, _⟩ := xpg_some l (I : Int) (fun x hx => (hM.ins x hx).2.1) (by omega) (by rw [← hS2]; omega)
        obtain ⟨q, hq, _⟩ := xpg_some l (K : Int) (fun x hx => (hM.ins x hx).2.1) (by omega) (by rw [← hS2]; omega)
        have hpq := Lib.hid (xpg_inj hM (by omega) (by rw [← hS2]; omega) (by omega) (by rw [← hS2]; omega) hp hq)
        have p1 : xpgV l (I : Int) = p := by unfold xpgV; rw [if_pos hm, if_neg (by omega), hp]; rfl
        have p2 : xpgE l (I : Int) = 0 := by unfold xpgE; rw [if_pos hm, if_neg (by omega), hp]; rfl
        have q1 : xpgV l (K : Int) = q := by unfold xpgV; rw [if_pos hm, if_neg (by omega), hq]; rfl
        have q2 : xpgE l (K : Int) = 0 := by unfold xpgE; rw [if_pos hm, if_neg (by omega), hq]; rfl
        have Hp := Lib.hid (And.intro p1 p2)
        have Hq := Lib.hid (And.intro q1 q2)
        clear hm hM hS2 hS3 hs h60 hI hK9 hp hq p1 p2 q1 q2
        go_enter Tryd.func5, Tryd.ntmps5
        have HC := Lib.hid (xgive_any a n c l w Hn.out (src.out _ HV.out) hl)
        go_wp2_with fail
        refine HC.out.mono ?_
        rintro e w1 ⟨x, rfl, hx, hb⟩
        replace HB : Hid (Below w.heap.size w w1) := HB.out.trans (hb.mono HB.out.size)
        replace HV : Hid (XV w1 _ l) := HV.out.ext hb
        have HX := Lib.hid hx
        clear hb HC hx
        have HM := Lib.hid (xmany_any x l w1 HX.out hl6.out Hr.out)
        rw [HS.out] at HM
        have HC := Lib.hid (HM.out)
        go_wp2_with fail
        refine HC.out.mono ?_
        rintro e w2 ⟨rfl, hb⟩
        replace HB : Hid (Below w.heap.size w w2) := HB.out.trans (hb.mono HB.out.size)
        replace HV : Hid (XV w2 _ l) := HV.out.ext hb
        replace HX := Lib.hid (HX.out.ext hb)
        clear hb HC
        clear HM
        have HC2 := Lib.hid (xcheck_any x l 1024 w2 HX.out hl6.out Hr.out)
        rw [if_pos Hm.out, errC_0] at HC2
        have HC := Lib.hid (HC2.out)
        go_wp2_with fail
        refine HC.out.mono ?_
        rintro e w3 ⟨rfl, hb⟩
        replace HB : Hid (Below w.heap.size w w3) := HB.out.trans (hb.mono HB.out.size)
        replace HV : Hid (XV w3 _ l) := HV.out.ext hb
        replace HX := Lib.hid (HX.out.ext hb)
        clear hb HC
        clear HC2
        go_wp2_with fail
        have hb : Below w3.heap.size w3 w3.drew := (Below.refl _ _).drew
        replace HB : Hid (Below w.heap.size w w3.drew) := HB.out.trans (hb.mono HB.out.size)
        replace HV : Hid (XV w3.drew _ l) := HV.out.ext hb
        replace HX := Lib.hid (HX.out.ext hb)
        clear hb
        refine wp_region_gr [(0, true), (1, true), (2, true), (3, true), (4, true), (5, true), (6, true), (7, true), (8, true), (9, true)] (by kernel_rfl) (by kernel_rfl) (by kernel_rfl) (by kernel_rfl) (fun _ _ _ _ _ h => h) ?_
        iterate 10 (refine wpGr_read (o := ⟨_, _, _, _, _, _⟩) (v := ?_) rfl (by rfl) ?_ ?_; rotate_left; (intro w' hw'; go_simp; with_reducible rfl); simp only [Act.put, List.setIfInBounds_toArray, List.set_cons_zero, List.set_cons_succ])
        refine wpGr_done ?_
        have HP := Lib.hid (xpage_any x l (I : Int) w3.drew HX.out hl6.out Hr.out (by omega))
        rw [Hp.out.1, Hp.out.2, errC_0] at HP
        have HC := Lib.hid (HP.out)
        go_wp2_with fail
        refine HC.out.mono ?_
        rintro e w4 ⟨rfl, hb⟩
        replace HB : Hid (Below w.heap.size w w4) := HB.out.trans (hb.mono HB.out.size)
        replace HV : Hid (XV w4 _ l) := HV.out.ext hb
        replace HX := Lib.hid (HX.out.ext hb)
        clear hb HC
        clear HP
        have HP := Lib.hid (xpage_any x l (K : Int) w4 HX.out hl6.out Hr.out (by omega))
        rw [Hq.out.1, Hq.out.2, errC_0] at HP
        have HC := Lib.hid (HP.out)
        go_wp2_with fail
        refine HC.out.mono ?_
        rintro e w5 ⟨rfl, hb⟩
        replace HB : Hid (Below w.heap.size w w5) := HB.out.trans (hb.mono HB.out.size)
        replace HV : Hid (XV w5 _ l) := HV.out.ext hb
        replace HX := Lib.hid (HX.out.ext hb)
        clear hb HC
        clear HP
        have hD : Hid (∃ D : Bool, (p == q) = D ∧ ((I : Int) == (K : Int)) = D ∧ (I == K) = D) := by
          by_cases h : I = K
          · refine ⟨true, beq_iff_eq.2 (hpq.out.2 (by omega)), beq_iff_eq.2 (by omega), beq_iff_eq.2 h⟩
          · refine ⟨false, beq_eq_false_iff_ne.2 (fun e => h (by have := hpq.out.1 e; omega)), beq_eq_false_iff_ne.2 (by omega), beq_eq_false_iff_ne.2 h⟩
        obtain ⟨D, hD1, hD2, hD3⟩ := hD.out
        clear hD hpq Hp Hq
        obtain ⟨W, hW⟩ : ∃ W, W = w5 := ⟨_, rfl⟩
        subst hW
        have HA : Hid (Below w.heap.size w W) := HB.out
        have HVA := Lib.hid HV.out
        have HXA := Lib.hid HX.out
        clear HB HV HX
        go_wp2_with fail
        go_loopw [15, 16] (fun bv i wr => ∃ (k : Nat) (C : Bool), bv = .bool C ∧ i = .int .i64 k ∧ k ≤ n ∧ Hid (C = xcovB (l.take k) (A : Int)) ∧ Hid (Below W.heap.size W wr)) (fun _ i _ => n - (intOf i).toNat)
        case atStart => exact ⟨0, false, rfl, rfl, by omega, rfl, Below.refl _ _⟩
        case round =>
          obtain ⟨k, C, rfl, rfl, hk, hC, hB⟩ := hrel
          by_cases hlt : k < n
          · have i1 : (k : Int) < (n : Int) := by omega
            have hkl : k < l.length := by rw [Hn.out]; exact hlt
            obtain ⟨g, o, rfl, hcell⟩ := ((src.out _ HVA.out).below hB.out (Nat.le_refl _)).xts (by omega)
            obtain ⟨p0, p1⟩ := hcell k hkl
            have up : ∀ (g o : Nat) (x : Value), wr.cell? ⟨g, o, none⟩ = some x → ∀ w', Ext wr.drew w' → w'.cell? ⟨g, o, none⟩ = some x := fun g o x h w' hw => by
              rw [((Below.refl wr.heap.size wr).drew.trans hw).cell (p := ⟨g, o, none⟩) (block_lt_of_cell h)]; exact h
            have q0 := up _ _ _ p0
            have q1 := up _ _ _ p1
            have hx := HM.out.ins (xt l k) (xt_mem l k hkl)
            have hcv : Hid (xcovB (l.take (k + 1)) (A : Int) = (xcovB (l.take k) (A : Int) || (decide ((xt l k).f ≤ (A : Int)) && decide ((A : Int) < (xt l k).f + (xt l k).m)))) := by
              show _ = _
              rw [xt_take l k hkl, xcovB_app]; simp [xcovB]
            rw [← hC.out] at hcv
            generalize xt l k = y at *
            obtain ⟨F, M⟩ := y
            obtain ⟨f1, f2, f3⟩ := hx
            dsimp only at q0 q1 f1 f2 f3 hcv
            obtain ⟨Z, hZ⟩ : ∃ Z, F + M = Z := ⟨_, rfl⟩
            have wF : IntKind.i64.wrap (F + M) = Z := by rw [IntKind.wrap_i64]; omega
            rw [hZ] at hcv
            have hBd : Hid (Below W.heap.size W wr.drew) := hB.out.drew
            clear hcell p0 p1 up hB hC hkl hZ
            cases C with
            | true =>
              rw [Bool.true_or] at hcv
              go_wp2_with fail
              refine wp_region_gr [(0, true), (1, true), (2, true), (3, true), (4, true), (5, true), (6, true), (7, true), (8, true), (9, true), (10, true), (11, true), (12, true), (13, true), (14, true), (15, true), (16, true), (17, true), (18, true), (19, true), (20, true), (21, true), (22, true), (23, true), (24, true), (25, true), (26, true), (27, true)] (by kernel_rfl) (by kernel_rfl) (by kernel_rfl) (by kernel_rfl) (fun _ _ _ _ _ h => h) ?_
              repeat (first | (refine wpGr_read (o := ⟨_, _, _, _, _, _⟩) (v := ?_) rfl (by rfl) ?_ ?_; rotate_left; (intro w' hw'; go_simp; with_reducible rfl); simp only [Act.put, List.setIfInBounds_toArray, List.set_cons_zero, List.set_cons_succ]) | (refine wpGr_skip (o := ⟨_, _, _, _, _, _⟩) rfl (by rfl) ?_; simp only [Act.put, List.setIfInBounds_toArray, List.set_cons_zero, List.set_cons_succ]))
              refine wpGr_done ?_
              clear q0 q1
              go_wp2_with fail
              go_roundw
              case rel => exact ⟨k + 1, true, rfl, by go_num, by omega, hcv.out.symm, hBd⟩
              case measure => simp [intOf]; omega
            | false =>
              rw [Bool.false_or] at hcv
              by_cases h1 : F ≤ (A : Int)
              · have d2 : decide (F ≤ (A : Int)) = true := decide_eq_true h1
                rw [d2, Bool.true_and] at hcv
                obtain ⟨G, hG⟩ : ∃ G, decide ((A : Int) < Z) = G := ⟨_, rfl⟩
                rw [hG] at hcv
                go_wp2_with fail
                refine wp_region_gr [(0, true), (1, true), (2, true), (3, true), (4, true), (5, true), (6, true), (7, true), (8, true), (9, true), (10, true), (11, true), (12, true), (13, true), (14, true), (15, true), (16, true), (17, true), (18, true), (19, true), (20, true), (21, true), (22, true), (23, true), (24, true), (25, true), (26, true), (27, true)] (by kernel_rfl) (by kernel_rfl) (by kernel_rfl) (by kernel_rfl) (fun _ _ _ _ _ h => h) ?_
                repeat (first | (refine wpGr_read (o := ⟨_, _, _, _, _, _⟩) (v := ?_) rfl (by rfl) ?_ ?_; rotate_left; (intro w' hw'; go_simp; with_reducible rfl); simp only [Act.put, List.setIfInBounds_toArray, List.set_cons_zero, List.set_cons_succ]) | (refine wpGr_skip (o := ⟨_, _, _, _, _, _⟩) rfl (by rfl) ?_; simp only [Act.put, List.setIfInBounds_toArray, List.set_cons_zero, List.set_cons_succ]))
                refine wpGr_done ?_
                clear q0 q1
                go_wp2_with fail
                go_roundw
                case rel => exact ⟨k + 1, G, rfl, by go_num, by omega, hcv.out.symm, hBd⟩
                case measure => simp [intOf]; omega
              · have d2 : decide (F ≤ (A : Int)) = false := decide_eq_false h1
                rw [d2, Bool.false_and] at hcv
                go_wp2_with fail
                refine wp_region_gr [(0, true), (1, true), (2, true), (3, true), (4, true), (5, true), (6, true), (7, true), (8, true), (9, true), (10, true), (11, true), (12, true), (13, true), (14, true), (15, true), (16, true), (17, true), (18, true), (19, true), (20, true), (21, true), (22, true), (23, true), (24, true), (25, true), (26, true), (27, true)] (by kernel_rfl) (by kernel_rfl) (by kernel_rfl) (by kernel_rfl) (fun _ _ _ _ _ h => h) ?_
                repeat (first | (refine wpGr_read (o := ⟨_, _, _, _, _, _⟩) (v := ?_) rfl (by rfl) ?_ ?_; rotate_left; (intro w' hw'; go_simp; with_reducible rfl); simp only [Act.put, List.setIfInBounds_toArray, List.set_cons_zero, List.set_cons_succ]) | (refine wpGr_skip (o := ⟨_, _, _, _, _, _⟩) rfl (by rfl) ?_; simp only [Act.put, List.setIfInBounds_toArray, List.set_cons_zero, List.set_cons_succ]))
                refine wpGr_done ?_
                clear q0 q1
                go_wp2_with fail
                go_roundw
                case rel => exact ⟨k + 1, false, rfl, by go_num, by omega, hcv.out.symm, hBd⟩
                case measure => simp [intOf]; omega
          · obtain rfl : k = n := by omega
            have hC2 := hC.out
            rw [List.take_of_length_le (by rw [Hn.out]; exact Nat.le_refl _)] at hC2
            have hE : Hid (xnuE l (A : Int) = if C = true then 0 else 2) := by
              show _ = _
              unfold xnuE; rw [if_pos Hm.out, xnu_cov, hC2]
            have HB : Hid (Below w.heap.size w wr) := HA.out.trans (hB.out.mono HA.out.size)
            have HV : Hid (XV wr _ l) := HVA.out.ext hB.out
            have HX : Hid (EV xtE wr _ l) := HXA.out.ext hB.out
            have HN := Lib.hid (xnumber_any x l (A : Int) wr HX.out hl6.out Hr.out)
            rw [hE.out] at HN
            generalize xnuV l (A : Int) = V at *
            clear hC2 hC hE hB HA HVA HXA
            cases C with
            | true =>
              rw [if_pos rfl, errC_0] at HN
              have HC := Lib.hid (HN.out)
              go_wp2_with fail
              refine HC.out.mono ?_
              rintro e w6 ⟨rfl, hb⟩
              replace HB : Hid (Below w.heap.size w w6) := HB.out.trans (hb.mono HB.out.size)
              replace HV : Hid (XV w6 _ l) := HV.out.ext hb
              replace HX := Lib.hid (HX.out.ext hb)
              clear hb HC
              clear HN
              have HC := Lib.hid (Sure.out w6 HB.out)
              go_wp2_with fail
              refine HC.out.mono ?_
              rintro e w7 ⟨rfl, hb⟩
              replace HB : Hid (Below w.heap.size w w7) := HB.out.trans (hb.mono HB.out.size)
              replace HV : Hid (XV w7 _ l) := HV.out.ext hb
              replace HX := Lib.hid (HX.out.ext hb)
              clear hb HC
              go_wp2
              go_ret
              exact ⟨rfl, HB.out⟩
            | false =>
              rw [if_neg (by decide)] at HN
              have HC := Lib.hid (HN.out)
              go_wp2_with fail
              refine HC.out.mono ?_
              rintro e w6 ⟨rfl, hb⟩
              replace HB : Hid (Below w.heap.size w w6) := HB.out.trans (hb.mono HB.out.size)
              replace HV : Hid (XV w6 _ l) := HV.out.ext hb
              replace HX := Lib.hid (HX.out.ext hb)
              clear hb HC
              clear HN
              have HC := Lib.hid (num_any (errC 2) 2 w6 (errC_is 2) (HG.out _ HB.out))
              rw [errC_2]
              go_wp2_with fail
              refine HC.out.mono ?_
              rintro e w7 ⟨rfl, hb⟩
              replace HB : Hid (Below w.heap.size w w7) := HB.out.trans (hb.mono HB.out.size)
              replace HV : Hid (XV w7 _ l) := HV.out.ext hb
              replace HX := Lib.hid (HX.out.ext hb)
              clear hb HC
              have HC := Lib.hid (Sure.out w7 HB.out)
              go_wp2_with fail
              refine HC.out.mono ?_
              rintro e w8 ⟨rfl, hb⟩
              replace HB : Hid (Below w.heap.size w w8) := HB.out.trans (hb.mono HB.out.size)
              replace HV : Hid (XV w8 _ l) := HV.out.ext hb
              replace HX := Lib.hid (HX.out.ext hb)
              clear hb HC
              go_wp2
              go_ret
              exact ⟨rfl, HB.out⟩
    · rw [show S = 0 by rw [← HS.out]; unfold xmanS; rw [if_neg hm]] at HS
      have Hm := Lib.hid hm
      clear hm h60
      go_enter Tryd.func5, Tryd.ntmps5
      have HC := Lib.hid (xgive_any a n c l w Hn.out (src.out _ HV.out) hl)
      go_wp2_with fail
      refine HC.out.mono ?_
      rintro e w1 ⟨x, rfl, hx, hb⟩
      replace HB : Hid (Below w.heap.size w w1) := HB.out.trans (hb.mono HB.out.size)
      replace HV : Hid (XV w1 _ l) := HV.out.ext hb
      have HX := Lib.hid hx
      clear hb HC hx
      have HM := Lib.hid (xmany_any x l w1 HX.out hl6.out Hr.out)
      rw [HS.out] at HM
      have HC := Lib.hid (HM.out)
      go_wp2_with fail
      refine HC.out.mono ?_
      rintro e w2 ⟨rfl, hb⟩
      replace HB : Hid (Below w.heap.size w w2) := HB.out.trans (hb.mono HB.out.size)
      replace HV : Hid (XV w2 _ l) := HV.out.ext hb
      replace HX := Lib.hid (HX.out.ext hb)
      clear hb HC
      clear HM
      have HC2 := Lib.hid (xcheck_any x l 1024 w2 HX.out hl6.out Hr.out)
      rw [if_neg Hm.out, errC_1] at HC2
      have HC := Lib.hid (HC2.out)
      go_wp2_with fail
      refine HC.out.mono ?_
      rintro e w3 ⟨rfl, hb⟩
      replace HB : Hid (Below w.heap.size w w3) := HB.out.trans (hb.mono HB.out.size)
      replace HV : Hid (XV w3 _ l) := HV.out.ext hb
      replace HX := Lib.hid (HX.out.ext hb)
      clear hb HC
      clear HC2
      have HC := Lib.hid (Sure.out w3 HB.out)
      go_wp2_with fail
      refine HC.out.mono ?_
      rintro e w4 ⟨rfl, hb⟩
      replace HB : Hid (Below w.heap.size w w4) := HB.out.trans (hb.mono HB.out.size)
      replace HV : Hid (XV w4 _ l) := HV.out.ext hb
      replace HX := Lib.hid (HX.out.ext hb)
      clear hb HC
      go_wp2
      go_ret
      exact ⟨rfl, HB.out⟩
end Go.Proofs.YtcimhcibkbbkdaaDoor
