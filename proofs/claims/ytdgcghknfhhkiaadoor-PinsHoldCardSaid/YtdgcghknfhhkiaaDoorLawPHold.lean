/-
  PinsHold: the law's walk (mkphold.py).
-/
import Derived.Test.YtdgcghknfhhkiaaDoorSure18
import Derived.Test.YtdgcghknfhhkiaaDoorPinLaw
import Derived.Test.YtdgcghknfhhkiaaDoorPinEql
namespace Go.Proofs.YtdgcghknfhhkiaaDoor
open Go Go.RowKit

/-- What is known of readers and one more. -/
structure PMore (l L : List Pn) (N M s : Nat) (f : Nat → Bool) : Prop where
  may : pmayB L M = true
  few : L.length ≤ 8
  len : L.length = l.length + 1
  fE : fiE L M M = 0
  fA : fiA L M M = (l.length : Int)
  del : pdel L l.length = l
  get : gtP L M M = ⟨M, s, f⟩
  old : olT L M = oldT L
  any : olB L M = true
  held : hdR L M = fun m => heldR l m || f m
  ahead : hdR l N = heldR l
  back : hdR l M = heldR l
  least : ∀ p ∈ L, oldT L ≤ p.sq
  mine : oldT L ≤ s
theorem pmore {l : List Pn} {N : Nat} (h : PMay l N) (hl : l.length < 8) (hN : N < 4611686018427387904) (s : Nat) (f : Nat → Bool) : PMore l (l ++ [⟨N + 1, s, f⟩]) N (N + 1) s f := by
  have hp := h.put hl hN s f
  have hm := (pmayB_iff _ _).2 hp
  have hlen : (l ++ [(⟨N + 1, s, f⟩ : Pn)]).length = l.length + 1 := by simp
  have hlast := pn_app_last l ⟨N + 1, s, f⟩
  have hf := hp.asc.find l.length (by rw [hlen]; omega)
  rw [hlast] at hf
  have hE := fiE_at hm hf
  have hN2 : PMay l (N + 1) := ⟨h.few, by omega, h.asc.lo, fun p hp => Nat.le_succ_of_le (h.asc.hi p hp), h.asc.asc⟩
  refine ⟨hm, hp.few, hlen, hE, fiA_at hm hf, ?_, ?_, ?_, ?_, ?_, ?_, ?_, fun p hp => oldT_le _ p hp, oldT_le _ ⟨N + 1, s, f⟩ (by simp)⟩
  · unfold pdel
    rw [List.take_left, List.drop_of_length_le (by rw [hlen]; exact Nat.le_refl _), List.append_nil]
  · unfold gtP
    rw [hE, if_pos rfl, hf]
    exact hlast
  · unfold olT; rw [if_pos hm]
  · unfold olB; rw [hm, Bool.true_and, decide_eq_true (by rw [hlen]; omega)]
  · unfold hdR; rw [if_pos hm]; exact held_app _ _
  · unfold hdR; rw [if_pos ((pmayB_iff _ _).2 h)]
  · unfold hdR; rw [if_pos ((pmayB_iff _ _).2 hN2)]
set_option maxRecDepth 100000 in
set_option maxHeartbeats 8000000 in
theorem hold_any (a : Option Addr) (n c : Nat) (l : List Pn) (N s : Nat) (f : Nat → Bool) (w : World) (hn : l.length = n) (hs : PA w a l) (hlc : n ≤ c) (hcm : c ≤ maxLen) (hlb : n * 144 ≤ 140737488355328) (hg : Hg w) :
    Calls Tryd.prog 5 #[.agg (psv N (.slice a n c)), .int .u64 (s : Nat), .agg (sc f)] w fun e w' => e = .returned (.bool true) ∧ Below w.heap.size w w' := by
  have HG := Lib.hid hg
  have HB := Lib.hid (Below.refl w.heap.size w)
  have hn9 : n ≤ 9223372036854775807 := by omega
  have CS := Lib.hid (fun w h => psure_any w h)
  have HN := Lib.hid hn
  have AV := Lib.hid (show PV w (.slice a n c) l from ⟨a, c, by rw [hn], hs, by rw [hn]; exact hlc, hcm⟩)
  obtain ⟨P0, hP0⟩ : ∃ P, psv N (.slice a n c) = P := ⟨_, rfl⟩
  have sP0 : P0.size = 2 := by rw [← hP0]; rfl
  have CG := Lib.hid (fun w h => give_any (.slice a n c) l N w h (by rw [hn]; exact hlb))
  have CCk := Lib.hid (fun v w h => check_any v l N w h)
  rw [hP0] at CG ⊢
  have HP0 := Lib.hid hP0
  clear hg hs hn hlc hcm hlb hP0
  go_enter Tryd.func5, Tryd.ntmps5
  go_wp2_with (first
    | (refine wpList_box_arr rfl RPS (.tmp 0) rfl P0 (by rfl) ?_; intro g3 w1 hg3 hk3 hb3)
    | (refine wpList_box_arr rfl TW (.tmp 2) rfl (sc f) (by rfl) ?_; intro g5 w2 hg5 hk5 hb5; have bb : Ext w w2 := hb3.trans (Below.mono hb5 hb3.size); replace HB := Lib.hid (HB.out.trans (Below.mono bb HB.out.size)); replace HG := Lib.hid (HG.out.below bb); replace AV := Lib.hid (AV.out.ext bb); have K3 := Lib.hid (hk3.ext hb5); have K5 := Lib.hid hk5)
    | (refine wpList_load_agg rfl RPS (.tmp 3) rfl g3 0 P0 (by rfl) agg_RPS K3.out.at sP0 ?_))
  clear hg3 hk3 hb3 hg5 hk5 hb5 bb
  refine (CG.out w2 AV.out).mono ?_
  rintro e u1 ⟨vx, rfl, hvx, hb⟩
  replace HB := Lib.hid (HB.out.trans (Below.mono hb HB.out.size))
  replace HG := Lib.hid (HG.out.below hb)
  replace AV := Lib.hid (AV.out.ext hb)
  replace K3 := Lib.hid (K3.out.ext hb)
  replace K5 := Lib.hid (K5.out.ext hb)
  clear hb
  have EX := Lib.hid hvx
  obtain ⟨ax, cx, hax, _⟩ := hvx
  rw [HN.out] at hax
  obtain ⟨PX, hPX⟩ : ∃ P, psv N vx = P := ⟨_, rfl⟩
  have sPX : PX.size = 2 := by rw [← hPX]; rfl
  have oPX : PX.all (·.oneCell') = true := by rw [← hPX]; exact psv_one EX.out
  rw [hPX]
  have HPX : Hid (psv N (.slice ax n cx) = PX) := by rw [← hax]; exact hPX
  have ccx := fun w h => CCk.out vx w h
  rw [hPX] at ccx
  replace CCk := Lib.hid ccx
  clear ccx CG
  by_cases h20 : 20 < n
  · have d1 : decide ((20 : Int) < (n : Int)) = true := decide_eq_true (by omega)
    go_wp2_with (first
      | (show wpList _ _ _ (⟨some 7, _, _, _, _, _⟩ :: _) _ _; refine wpList_alloc_arr rfl PS rfl arrz_PS ?_; intro g7 wa7 hg7 hk7 hb7)
      | (refine wpList_store_agg rfl PS (.tmp 7) (.tmp 19) rfl g7 PX _ PS (by rfl) (by rfl) agg_PS hk7 sPX rfl oPX ?_; intro wv7 hj7 ht7 hs7; have bb7 : Ext u1 wv7 := hb7.trans (ht7.below hb7.size (fun i hi => by subst hi; exact hg7)); replace HB := Lib.hid (HB.out.trans (Below.mono bb7 HB.out.size)); replace HG := Lib.hid (HG.out.below bb7); replace AV := Lib.hid (AV.out.ext bb7); replace K3 := Lib.hid (K3.out.ext bb7); replace K5 := Lib.hid (K5.out.ext bb7); replace EX := Lib.hid (EX.out.ext bb7); have K7 := Lib.hid hj7; have Q7 := Lib.hid hg7; clear hg7 hk7 hb7 hj7 ht7 hs7 bb7; have q3 : wv7.cell? ⟨g3, 1, none⟩ = some (.slice a n c) := by have := K3.out; rw [← HP0.out] at this; exact this.ps1))
    refine (CS.out wv7 HG.out).mono ?_
    rintro e u2 ⟨rfl, hb⟩
    replace HB := Lib.hid (HB.out.trans (Below.mono hb HB.out.size))
    replace HG := Lib.hid (HG.out.below hb)
    replace AV := Lib.hid (AV.out.ext hb)
    replace K3 := Lib.hid (K3.out.ext hb)
    replace K5 := Lib.hid (K5.out.ext hb)
    replace EX := Lib.hid (EX.out.ext hb)
    replace K7 := Lib.hid (K7.out.ext hb)
    clear hb
    go_wp2
    go_ret
    exact ⟨rfl, HB.out⟩
  · have d1 : decide ((20 : Int) < (n : Int)) = false := decide_eq_false (by omega)
    rcases opE_way l N with hmy | ⟨hmy, hF⟩ | ⟨hmy, hl8, hN⟩
    · skip
      rw [show mayE l N = 1 by unfold mayE; rw [if_neg (by rw [hmy]; decide)], errC_1] at CCk
      go_wp2_with (first
        | (show wpList _ _ _ (⟨some 7, _, _, _, _, _⟩ :: _) _ _; refine wpList_alloc_arr rfl PS rfl arrz_PS ?_; intro g7 wa7 hg7 hk7 hb7)
        | (refine wpList_store_agg rfl PS (.tmp 7) (.tmp 19) rfl g7 PX _ PS (by rfl) (by rfl) agg_PS hk7 sPX rfl oPX ?_; intro wv7 hj7 ht7 hs7; have bb7 : Ext u1 wv7 := hb7.trans (ht7.below hb7.size (fun i hi => by subst hi; exact hg7)); replace HB := Lib.hid (HB.out.trans (Below.mono bb7 HB.out.size)); replace HG := Lib.hid (HG.out.below bb7); replace AV := Lib.hid (AV.out.ext bb7); replace K3 := Lib.hid (K3.out.ext bb7); replace K5 := Lib.hid (K5.out.ext bb7); replace EX := Lib.hid (EX.out.ext bb7); have K7 := Lib.hid hj7; have Q7 := Lib.hid hg7; clear hg7 hk7 hb7 hj7 ht7 hs7 bb7; have q3 : wv7.cell? ⟨g3, 1, none⟩ = some (.slice a n c) := by have := K3.out; rw [← HP0.out] at this; exact this.ps1)
        | (refine wpList_load_agg_when (by rfl) PS (.tmp 7) rfl g7 0 PX (by rfl) agg_PS K7.out.at sPX ?_))
      refine (CCk.out wv7 EX.out).mono ?_
      rintro e u2 ⟨rfl, hb⟩
      replace HB := Lib.hid (HB.out.trans (Below.mono hb HB.out.size))
      replace HG := Lib.hid (HG.out.below hb)
      replace AV := Lib.hid (AV.out.ext hb)
      replace K3 := Lib.hid (K3.out.ext hb)
      replace K5 := Lib.hid (K5.out.ext hb)
      replace EX := Lib.hid (EX.out.ext hb)
      replace K7 := Lib.hid (K7.out.ext hb)
      clear hb
      clear q3
      go_wp2_with fail
      refine (CS.out u2 HG.out).mono ?_
      rintro e u3 ⟨rfl, hb⟩
      replace HB := Lib.hid (HB.out.trans (Below.mono hb HB.out.size))
      replace HG := Lib.hid (HG.out.below hb)
      replace AV := Lib.hid (AV.out.ext hb)
      replace K3 := Lib.hid (K3.out.ext hb)
      replace K5 := Lib.hid (K5.out.ext hb)
      replace EX := Lib.hid (EX.out.ext hb)
      replace K7 := Lib.hid (K7.out.ext hb)
      clear hb
      go_wp2
      go_ret
      exact ⟨rfl, HB.out⟩
    · skip
      rw [show mayE l N = 0 by unfold mayE; rw [if_pos hmy], errC_0] at CCk
      have co := fun w h => open_full vx l N s f w h hmy hF
      rw [hPX] at co
      have CO := Lib.hid co
      obtain ⟨P1, hP1⟩ : ∃ P, psv 0 pnil = P := ⟨_, rfl⟩
      have sP1 : P1.size = 2 := by rw [← hP1]; rfl
      have oP1 : P1.all (·.oneCell') = true := by rw [← hP1]; exact psv_one (EV.none w2)
      rw [hP1] at CO
      have CN := Lib.hid (fun w h => num_any (errC 7) 7 w (errC_is 7) h)
      rw [HN.out] at hF
      rw [errC_7] at CO CN
      clear co hP1
      go_wp2_with (first
        | (show wpList _ _ _ (⟨some 7, _, _, _, _, _⟩ :: _) _ _; refine wpList_alloc_arr rfl PS rfl arrz_PS ?_; intro g7 wa7 hg7 hk7 hb7)
        | (refine wpList_store_agg rfl PS (.tmp 7) (.tmp 19) rfl g7 PX _ PS (by rfl) (by rfl) agg_PS hk7 sPX rfl oPX ?_; intro wv7 hj7 ht7 hs7; have bb7 : Ext u1 wv7 := hb7.trans (ht7.below hb7.size (fun i hi => by subst hi; exact hg7)); replace HB := Lib.hid (HB.out.trans (Below.mono bb7 HB.out.size)); replace HG := Lib.hid (HG.out.below bb7); replace AV := Lib.hid (AV.out.ext bb7); replace K3 := Lib.hid (K3.out.ext bb7); replace K5 := Lib.hid (K5.out.ext bb7); replace EX := Lib.hid (EX.out.ext bb7); have K7 := Lib.hid hj7; have Q7 := Lib.hid hg7; clear hg7 hk7 hb7 hj7 ht7 hs7 bb7; have q3 : wv7.cell? ⟨g3, 1, none⟩ = some (.slice a n c) := by have := K3.out; rw [← HP0.out] at this; exact this.ps1)
        | (refine wpList_load_agg_when (by rfl) PS (.tmp 7) rfl g7 0 PX (by rfl) agg_PS K7.out.at sPX ?_))
      refine (CCk.out wv7 EX.out).mono ?_
      rintro e u2 ⟨rfl, hb⟩
      replace HB := Lib.hid (HB.out.trans (Below.mono hb HB.out.size))
      replace HG := Lib.hid (HG.out.below hb)
      replace AV := Lib.hid (AV.out.ext hb)
      replace K3 := Lib.hid (K3.out.ext hb)
      replace K5 := Lib.hid (K5.out.ext hb)
      replace EX := Lib.hid (EX.out.ext hb)
      replace K7 := Lib.hid (K7.out.ext hb)
      clear hb
      clear q3
      go_wp2_with (first
        | (refine wpList_load_agg rfl RPS (.tmp 3) rfl g3 0 P0 (by rfl) agg_RPS K3.out.at sP0 ?_)
        | (refine wpList_load_agg rfl TW (.tmp 5) rfl g5 0 (sc f) (by rfl) agg_TW K5.out.at (sc_size _) ?_)
        | (refine wpList_load_agg rfl PS (.tmp 7) rfl g7 0 PX (by rfl) agg_PS K7.out.at sPX ?_))
      refine (CO.out u2 EX.out).mono ?_
      rintro e u3 ⟨rfl, hb⟩
      replace HB := Lib.hid (HB.out.trans (Below.mono hb HB.out.size))
      replace HG := Lib.hid (HG.out.below hb)
      replace AV := Lib.hid (AV.out.ext hb)
      replace K3 := Lib.hid (K3.out.ext hb)
      replace K5 := Lib.hid (K5.out.ext hb)
      replace EX := Lib.hid (EX.out.ext hb)
      replace K7 := Lib.hid (K7.out.ext hb)
      clear hb
      go_wp2_with (first
        | (show wpList _ _ _ (⟨some 8, _, _, _, _, _⟩ :: _) _ _; refine wpList_alloc_arr rfl PS rfl arrz_PS ?_; intro g8 wa8 hg8 hk8 hb8)
        | (refine wpList_store_agg rfl PS (.tmp 8) (.tmp 35) rfl g8 P1 _ PS (by rfl) (by rfl) agg_PS hk8 sP1 rfl oP1 ?_; intro wv8 hj8 ht8 hs8; have bb8 : Ext u3 wv8 := hb8.trans (ht8.below hb8.size (fun i hi => by subst hi; exact hg8)); replace HB := Lib.hid (HB.out.trans (Below.mono bb8 HB.out.size)); replace HG := Lib.hid (HG.out.below bb8); replace AV := Lib.hid (AV.out.ext bb8); replace K3 := Lib.hid (K3.out.ext bb8); replace K5 := Lib.hid (K5.out.ext bb8); replace EX := Lib.hid (EX.out.ext bb8); replace K7 := Lib.hid (K7.out.ext bb8); have K8 := Lib.hid hj8; have Q8 := Lib.hid hg8; clear hg8 hk8 hb8 hj8 ht8 hs8 bb8))
      refine (CN.out wv8 HG.out).mono ?_
      rintro e u4 ⟨rfl, hb⟩
      replace HB := Lib.hid (HB.out.trans (Below.mono hb HB.out.size))
      replace HG := Lib.hid (HG.out.below hb)
      replace AV := Lib.hid (AV.out.ext hb)
      replace K3 := Lib.hid (K3.out.ext hb)
      replace K5 := Lib.hid (K5.out.ext hb)
      replace EX := Lib.hid (EX.out.ext hb)
      replace K7 := Lib.hid (K7.out.ext hb)
      replace K8 := Lib.hid (K8.out.ext hb)
      clear hb
      have q7 : u4.cell? ⟨g7, 1, none⟩ = some (.slice ax n cx) := by have := K7.out; rw [← HPX.out] at this; exact this.ps1
      have q8 : u4.cell? ⟨g7, 0, none⟩ = some (.int .u64 (N : Nat)) := by have := K7.out; rw [← HPX.out] at this; exact this.ps0
      by_cases hn8 : n = 8
      · have d2 : ((n : Int) == 8) = true := by rw [beq_iff_eq]; omega
        clear hF hn8
        go_wp2_with fail
        refine (CS.out u4 HG.out).mono ?_
        rintro e u5 ⟨rfl, hb⟩
        replace HB := Lib.hid (HB.out.trans (Below.mono hb HB.out.size))
        replace HG := Lib.hid (HG.out.below hb)
        replace AV := Lib.hid (AV.out.ext hb)
        replace K3 := Lib.hid (K3.out.ext hb)
        replace K5 := Lib.hid (K5.out.ext hb)
        replace EX := Lib.hid (EX.out.ext hb)
        replace K7 := Lib.hid (K7.out.ext hb)
        replace K8 := Lib.hid (K8.out.ext hb)
        clear hb
        clear q7 q8
        go_wp2
        go_ret
        exact ⟨rfl, HB.out⟩
      · have d2 : ((n : Int) == 8) = false := by rw [beq_eq_false_iff_ne]; omega
        have d4 : ((N : Int) == 4611686018427387904) = true := by rw [beq_iff_eq]; omega
        clear hF hn8
        go_wp2_with fail
        refine (CS.out u4 HG.out).mono ?_
        rintro e u5 ⟨rfl, hb⟩
        replace HB := Lib.hid (HB.out.trans (Below.mono hb HB.out.size))
        replace HG := Lib.hid (HG.out.below hb)
        replace AV := Lib.hid (AV.out.ext hb)
        replace K3 := Lib.hid (K3.out.ext hb)
        replace K5 := Lib.hid (K5.out.ext hb)
        replace EX := Lib.hid (EX.out.ext hb)
        replace K7 := Lib.hid (K7.out.ext hb)
        replace K8 := Lib.hid (K8.out.ext hb)
        clear hb
        clear q7 q8
        go_wp2
        go_ret
        exact ⟨rfl, HB.out⟩
    · skip
      have hm2 := (pmayB_iff l N).2 hmy
      rw [show mayE l N = 0 by unfold mayE; rw [if_pos hm2], errC_0] at CCk
      have HM := Lib.hid (pmore hmy hl8 hN s f)
      have CO := Lib.hid (fun v w h => open_yes v l N s f w h hm2 hl8 hN)
      obtain ⟨L, hL⟩ : ∃ L, l ++ [(⟨N + 1, s, f⟩ : Pn)] = L := ⟨_, rfl⟩
      obtain ⟨M, hM⟩ : ∃ M, N + 1 = M := ⟨_, rfl⟩
      rw [hL] at HM CO
      rw [hM] at HM CO
      have hwM : IntKind.u64.wrap ((N : Int) + 1) = (M : Int) := by rw [IntKind.wrap_u64]; omega
      have CC := Lib.hid (fun v w h => close_at v L M M n w h HM.out.fE (by rw [HM.out.fA, HN.out]) (by rw [HM.out.len, HN.out]; omega) HM.out.few)
      have CGe := Lib.hid (fun v w h => get_any v L M M w h)
      have COl := Lib.hid (fun v w h => oldest_any v L M w h)
      have CHy := Lib.hid (fun v w h => held_any v L M w h)
      have CHx := Lib.hid (fun v w h => held_any v l N w h)
      have CHz := Lib.hid (fun v w h => held_any v l M w h)
      rw [show pdel L n = l by rw [← HN.out]; exact HM.out.del, errC_0] at CC
      rw [HM.out.get, HM.out.fE, errC_0] at CGe
      rw [HM.out.old, HM.out.any] at COl
      rw [HM.out.held] at CHy
      rw [HM.out.ahead] at CHx
      rw [HM.out.back] at CHz
      rw [errC_0] at CO
      obtain ⟨HX, hHX⟩ : ∃ F, heldR l = F := ⟨_, rfl⟩
      rw [hHX] at CHy CHx CHz
      have CE := Lib.hid (fun w => either_any HX f w)
      obtain ⟨HY, hHY⟩ : ∃ F : Nat → Bool, (fun m => HX m || f m) = F := ⟨_, rfl⟩
      rw [hHY] at CHy CE
      obtain ⟨OT, hOT⟩ : ∃ T, oldT L = T := ⟨_, rfl⟩
      have hle := HM.out.least
      have hmi := HM.out.mine
      rw [hOT] at COl hle hmi
      have HLe := Lib.hid hle
      have d5 : decide ((OT : Int) ≤ (s : Int)) = true := decide_eq_true (by omega)
      have hLn : L.length = n + 1 := by rw [HM.out.len, HN.out]
      have HLn := Lib.hid hLn
      have hn8 : n < 8 := by rw [HN.out] at hl8; exact hl8
      have nx := fun w h => CO.out vx w h
      rw [hPX] at nx
      replace CO := Lib.hid nx
      have nh := fun w h => CHx.out vx w h
      rw [hPX] at nh
      replace CHx := Lib.hid nh
      clear nx nh hm2 hmy hL hM hHX hHY hOT hle hLn hl8 hN
      go_wp2_with (first
        | (show wpList _ _ _ (⟨some 7, _, _, _, _, _⟩ :: _) _ _; refine wpList_alloc_arr rfl PS rfl arrz_PS ?_; intro g7 wa7 hg7 hk7 hb7)
        | (refine wpList_store_agg rfl PS (.tmp 7) (.tmp 19) rfl g7 PX _ PS (by rfl) (by rfl) agg_PS hk7 sPX rfl oPX ?_; intro wv7 hj7 ht7 hs7; have bb7 : Ext u1 wv7 := hb7.trans (ht7.below hb7.size (fun i hi => by subst hi; exact hg7)); replace HB := Lib.hid (HB.out.trans (Below.mono bb7 HB.out.size)); replace HG := Lib.hid (HG.out.below bb7); replace AV := Lib.hid (AV.out.ext bb7); replace K3 := Lib.hid (K3.out.ext bb7); replace K5 := Lib.hid (K5.out.ext bb7); replace EX := Lib.hid (EX.out.ext bb7); have K7 := Lib.hid hj7; have Q7 := Lib.hid hg7; clear hg7 hk7 hb7 hj7 ht7 hs7 bb7; have q3 : wv7.cell? ⟨g3, 1, none⟩ = some (.slice a n c) := by have := K3.out; rw [← HP0.out] at this; exact this.ps1)
        | (refine wpList_load_agg_when (by rfl) PS (.tmp 7) rfl g7 0 PX (by rfl) agg_PS K7.out.at sPX ?_))
      refine (CCk.out wv7 EX.out).mono ?_
      rintro e u2 ⟨rfl, hb⟩
      replace HB := Lib.hid (HB.out.trans (Below.mono hb HB.out.size))
      replace HG := Lib.hid (HG.out.below hb)
      replace AV := Lib.hid (AV.out.ext hb)
      replace K3 := Lib.hid (K3.out.ext hb)
      replace K5 := Lib.hid (K5.out.ext hb)
      replace EX := Lib.hid (EX.out.ext hb)
      replace K7 := Lib.hid (K7.out.ext hb)
      clear hb
      clear q3
      go_wp2_with (first
        | (refine wpList_load_agg rfl RPS (.tmp 3) rfl g3 0 P0 (by rfl) agg_RPS K3.out.at sP0 ?_)
        | (refine wpList_load_agg rfl TW (.tmp 5) rfl g5 0 (sc f) (by rfl) agg_TW K5.out.at (sc_size _) ?_)
        | (refine wpList_load_agg rfl PS (.tmp 7) rfl g7 0 PX (by rfl) agg_PS K7.out.at sPX ?_))
      refine (CO.out u2 EX.out).mono ?_
      rintro e u3 ⟨vy, rfl, hvy, hb⟩
      replace HB := Lib.hid (HB.out.trans (Below.mono hb HB.out.size))
      replace HG := Lib.hid (HG.out.below hb)
      replace AV := Lib.hid (AV.out.ext hb)
      replace K3 := Lib.hid (K3.out.ext hb)
      replace K5 := Lib.hid (K5.out.ext hb)
      replace EX := Lib.hid (EX.out.ext hb)
      replace K7 := Lib.hid (K7.out.ext hb)
      clear hb
      have EY := Lib.hid hvy
      obtain ⟨ay, cy, havy, _⟩ := hvy
      rw [HLn.out] at havy
      obtain ⟨PY, hPY⟩ : ∃ P, psv M vy = P := ⟨_, rfl⟩
      have sPY : PY.size = 2 := by rw [← hPY]; rfl
      have oPY : PY.all (·.oneCell') = true := by rw [← hPY]; exact psv_one EY.out
      rw [hPY]
      have HPY : Hid (psv M (.slice ay (n + 1) cy) = PY) := by rw [← havy]; exact hPY
      have ny := fun w h => CC.out vy w h
      rw [hPY] at ny
      replace CC := Lib.hid ny
      clear ny
      have ny := fun w h => CGe.out vy w h
      rw [hPY] at ny
      replace CGe := Lib.hid ny
      clear ny
      have ny := fun w h => COl.out vy w h
      rw [hPY] at ny
      replace COl := Lib.hid ny
      clear ny
      have ny := fun w h => CHy.out vy w h
      rw [hPY] at ny
      replace CHy := Lib.hid ny
      clear ny
      go_wp2_with (first
        | (show wpList _ _ _ (⟨some 8, _, _, _, _, _⟩ :: _) _ _; refine wpList_alloc_arr rfl PS rfl arrz_PS ?_; intro g8 wa8 hg8 hk8 hb8)
        | (refine wpList_store_agg rfl PS (.tmp 8) (.tmp 35) rfl g8 PY _ PS (by rfl) (by rfl) agg_PS hk8 sPY rfl oPY ?_; intro wv8 hj8 ht8 hs8; have bb8 : Ext u3 wv8 := hb8.trans (ht8.below hb8.size (fun i hi => by subst hi; exact hg8)); replace HB := Lib.hid (HB.out.trans (Below.mono bb8 HB.out.size)); replace HG := Lib.hid (HG.out.below bb8); replace AV := Lib.hid (AV.out.ext bb8); replace K3 := Lib.hid (K3.out.ext bb8); replace K5 := Lib.hid (K5.out.ext bb8); replace EX := Lib.hid (EX.out.ext bb8); replace K7 := Lib.hid (K7.out.ext bb8); replace EY := Lib.hid (EY.out.ext bb8); have K8 := Lib.hid hj8; have Q8 := Lib.hid hg8; clear hg8 hk8 hb8 hj8 ht8 hs8 bb8)
        | (refine wpList_load_agg rfl RPS (.tmp 3) rfl g3 0 P0 (by rfl) agg_RPS K3.out.at sP0 ?_)
        | (refine wpList_load_agg rfl TW (.tmp 5) rfl g5 0 (sc f) (by rfl) agg_TW K5.out.at (sc_size _) ?_)
        | (refine wpList_load_agg rfl PS (.tmp 7) rfl g7 0 PX (by rfl) agg_PS K7.out.at sPX ?_)
        | (refine wpList_load_agg rfl PS (.tmp 8) rfl g8 0 PY (by rfl) agg_PS K8.out.at sPY ?_))
      refine (CC.out wv8 EY.out).mono ?_
      rintro e u4 ⟨vz, rfl, hvz, hb⟩
      replace HB := Lib.hid (HB.out.trans (Below.mono hb HB.out.size))
      replace HG := Lib.hid (HG.out.below hb)
      replace AV := Lib.hid (AV.out.ext hb)
      replace K3 := Lib.hid (K3.out.ext hb)
      replace K5 := Lib.hid (K5.out.ext hb)
      replace EX := Lib.hid (EX.out.ext hb)
      replace K7 := Lib.hid (K7.out.ext hb)
      replace EY := Lib.hid (EY.out.ext hb)
      replace K8 := Lib.hid (K8.out.ext hb)
      clear hb
      have EZ := Lib.hid hvz
      obtain ⟨az, cz, havz, _⟩ := hvz
      rw [HN.out] at havz
      obtain ⟨PZ, hPZ⟩ : ∃ P, psv M vz = P := ⟨_, rfl⟩
      have sPZ : PZ.size = 2 := by rw [← hPZ]; rfl
      have oPZ : PZ.all (·.oneCell') = true := by rw [← hPZ]; exact psv_one EZ.out
      rw [hPZ]
      have HPZ : Hid (psv M (.slice az n cz) = PZ) := by rw [← havz]; exact hPZ
      have ny := fun w h => CHz.out vz w h
      rw [hPZ] at ny
      replace CHz := Lib.hid ny
      clear ny
      go_wp2_with (first
        | (show wpList _ _ _ (⟨some 11, _, _, _, _, _⟩ :: _) _ _; refine wpList_alloc_arr rfl PS rfl arrz_PS ?_; intro g11 wa11 hg11 hk11 hb11)
        | (refine wpList_store_agg rfl PS (.tmp 11) (.tmp 61) rfl g11 PZ _ PS (by rfl) (by rfl) agg_PS hk11 sPZ rfl oPZ ?_; intro wv11 hj11 ht11 hs11; have bb11 : Ext u4 wv11 := hb11.trans (ht11.below hb11.size (fun i hi => by subst hi; exact hg11)); replace HB := Lib.hid (HB.out.trans (Below.mono bb11 HB.out.size)); replace HG := Lib.hid (HG.out.below bb11); replace AV := Lib.hid (AV.out.ext bb11); replace K3 := Lib.hid (K3.out.ext bb11); replace K5 := Lib.hid (K5.out.ext bb11); replace EX := Lib.hid (EX.out.ext bb11); replace K7 := Lib.hid (K7.out.ext bb11); replace EY := Lib.hid (EY.out.ext bb11); replace K8 := Lib.hid (K8.out.ext bb11); replace EZ := Lib.hid (EZ.out.ext bb11); have K11 := Lib.hid hj11; have Q11 := Lib.hid hg11; clear hg11 hk11 hb11 hj11 ht11 hs11 bb11)
        | (refine wpList_load_agg rfl RPS (.tmp 3) rfl g3 0 P0 (by rfl) agg_RPS K3.out.at sP0 ?_)
        | (refine wpList_load_agg rfl TW (.tmp 5) rfl g5 0 (sc f) (by rfl) agg_TW K5.out.at (sc_size _) ?_)
        | (refine wpList_load_agg rfl PS (.tmp 7) rfl g7 0 PX (by rfl) agg_PS K7.out.at sPX ?_)
        | (refine wpList_load_agg rfl PS (.tmp 8) rfl g8 0 PY (by rfl) agg_PS K8.out.at sPY ?_)
        | (refine wpList_load_agg rfl PS (.tmp 11) rfl g11 0 PZ (by rfl) agg_PS K11.out.at sPZ ?_))
      refine (CGe.out wv11 EY.out).mono ?_
      rintro e u5 ⟨rfl, hb⟩
      replace HB := Lib.hid (HB.out.trans (Below.mono hb HB.out.size))
      replace HG := Lib.hid (HG.out.below hb)
      replace AV := Lib.hid (AV.out.ext hb)
      replace K3 := Lib.hid (K3.out.ext hb)
      replace K5 := Lib.hid (K5.out.ext hb)
      replace EX := Lib.hid (EX.out.ext hb)
      replace K7 := Lib.hid (K7.out.ext hb)
      replace EY := Lib.hid (EY.out.ext hb)
      replace K8 := Lib.hid (K8.out.ext hb)
      replace EZ := Lib.hid (EZ.out.ext hb)
      replace K11 := Lib.hid (K11.out.ext hb)
      clear hb
      go_wp2_with (first
        | (show wpList _ _ _ (⟨some 13, _, _, _, _, _⟩ :: _) _ _; refine wpList_alloc_arr rfl PT rfl arrz_PT ?_; intro g13 wa13 hg13 hk13 hb13)
        | (refine wpList_store_agg rfl PT (.tmp 13) (.tmp 67) rfl g13 (pv ⟨M, s, f⟩) _ PT (by rfl) (by rfl) agg_PT hk13 (pv_size _) (pv_size _) (pv_one _) ?_; intro wv13 hj13 ht13 hs13; have bb13 : Ext u5 wv13 := hb13.trans (ht13.below hb13.size (fun i hi => by subst hi; exact hg13)); replace HB := Lib.hid (HB.out.trans (Below.mono bb13 HB.out.size)); replace HG := Lib.hid (HG.out.below bb13); replace AV := Lib.hid (AV.out.ext bb13); replace K3 := Lib.hid (K3.out.ext bb13); replace K5 := Lib.hid (K5.out.ext bb13); replace EX := Lib.hid (EX.out.ext bb13); replace K7 := Lib.hid (K7.out.ext bb13); replace EY := Lib.hid (EY.out.ext bb13); replace K8 := Lib.hid (K8.out.ext bb13); replace EZ := Lib.hid (EZ.out.ext bb13); replace K11 := Lib.hid (K11.out.ext bb13); have K13 := Lib.hid hj13; have Q13 := Lib.hid hg13; clear hg13 hk13 hb13 hj13 ht13 hs13 bb13)
        | (refine wpList_load_agg rfl RPS (.tmp 3) rfl g3 0 P0 (by rfl) agg_RPS K3.out.at sP0 ?_)
        | (refine wpList_load_agg rfl TW (.tmp 5) rfl g5 0 (sc f) (by rfl) agg_TW K5.out.at (sc_size _) ?_)
        | (refine wpList_load_agg rfl PS (.tmp 7) rfl g7 0 PX (by rfl) agg_PS K7.out.at sPX ?_)
        | (refine wpList_load_agg rfl PS (.tmp 8) rfl g8 0 PY (by rfl) agg_PS K8.out.at sPY ?_)
        | (refine wpList_load_agg rfl PS (.tmp 11) rfl g11 0 PZ (by rfl) agg_PS K11.out.at sPZ ?_)
        | (refine wpList_load_agg rfl PT (.tmp 13) rfl g13 0 (pv ⟨M, s, f⟩) (by rfl) agg_PT K13.out.at (pv_size _) ?_))
      refine (COl.out wv13 EY.out).mono ?_
      rintro e u6 ⟨rfl, hb⟩
      replace HB := Lib.hid (HB.out.trans (Below.mono hb HB.out.size))
      replace HG := Lib.hid (HG.out.below hb)
      replace AV := Lib.hid (AV.out.ext hb)
      replace K3 := Lib.hid (K3.out.ext hb)
      replace K5 := Lib.hid (K5.out.ext hb)
      replace EX := Lib.hid (EX.out.ext hb)
      replace K7 := Lib.hid (K7.out.ext hb)
      replace EY := Lib.hid (EY.out.ext hb)
      replace K8 := Lib.hid (K8.out.ext hb)
      replace EZ := Lib.hid (EZ.out.ext hb)
      replace K11 := Lib.hid (K11.out.ext hb)
      replace K13 := Lib.hid (K13.out.ext hb)
      clear hb
      skip
      have z8 : u6.cell? ⟨g8, 1, none⟩ = some (.slice ay (n + 1) cy) := by have := K8.out; rw [← HPY.out] at this; exact this.ps1
      obtain ⟨m, hm⟩ : ∃ m, n + 1 = m := ⟨_, rfl⟩
      rw [hm] at z8 HPY
      have hm9 : m ≤ 9 := by omega
      have HLm : Hid (L.length = m) := by rw [← hm]; exact HLn.out
      clear hm
      go_wp2_with fail
      go_loopw [17] (fun i wr => ∃ k : Nat, i = .int .i64 k ∧ k ≤ m ∧ wr = u6) (fun i _ => m - (intOf i).toNat)
      case atStart => exact ⟨0, rfl, by omega, rfl⟩
      case round =>
        obtain ⟨k, rfl, hk, rfl⟩ := hrel
        by_cases hlt : k < m
        · have i1 : (k : Int) < (m : Int) := by omega
          obtain ⟨ay', cy', hac, hpa, _⟩ := EY.out
          rw [havy] at hac
          rw [HLm.out] at hac
          cases hac
          obtain ⟨g, o, rfl, hcell⟩ := hpa.pin (by rw [HLm.out]; omega)
          have q2 := (hcell k (by rw [HLm.out]; exact hlt)).sq
          have hS2 := HLe.out _ (pn_mem L k (by rw [HLm.out]; exact hlt))
          generalize (pn L k).sq = S at *
          have hS : ¬ S < OT := by omega
          have d6 : decide ((S : Int) < (OT : Int)) = false := decide_eq_false (by omega)
          clear hcell hS2
          go_wp2
          go_roundw
          case rel => exact ⟨k + 1, by go_num, by omega, trivial⟩
          case measure => simp [intOf]; omega
        · obtain rfl : k = m := by omega
          clear hlt
          go_wp2_with fail
          clear z8
          refine wp_region_gr [(0, true), (1, true), (2, true), (3, true), (4, true), (5, true), (6, true), (7, true), (8, true), (9, true), (10, true), (11, true), (12, true), (13, true), (14, true), (15, true), (16, true), (17, true), (18, true), (19, true), (20, true), (21, true), (22, true), (23, true), (24, true), (25, true), (26, true), (27, true), (29, true), (31, true), (28, false), (30, false), (32, false), (33, true), (34, true), (35, true), (36, true), (38, true), (37, false), (39, false), (40, true), (41, true), (42, true), (43, true), (44, true), (45, true), (46, true), (47, true), (48, true), (49, true), (50, true), (51, true), (52, true), (53, true), (54, true), (55, true), (56, true), (57, true), (58, true), (59, true), (60, false), (61, true), (62, true)] (by kernel_rfl) (by kernel_rfl) (by kernel_rfl) (by kernel_rfl) (fun _ _ _ _ _ h => h) ?_
          replace HB := Lib.hid HB.out.drew
          replace HG := Lib.hid (HG.out.below (Ext.drew _))
          replace AV := Lib.hid (AV.out.ext (Ext.drew _))
          replace K3 := Lib.hid (K3.out.ext (Ext.drew _))
          replace K5 := Lib.hid (K5.out.ext (Ext.drew _))
          replace EX := Lib.hid (EX.out.ext (Ext.drew _))
          replace K7 := Lib.hid (K7.out.ext (Ext.drew _))
          replace EY := Lib.hid (EY.out.ext (Ext.drew _))
          replace K8 := Lib.hid (K8.out.ext (Ext.drew _))
          replace EZ := Lib.hid (EZ.out.ext (Ext.drew _))
          replace K11 := Lib.hid (K11.out.ext (Ext.drew _))
          replace K13 := Lib.hid (K13.out.ext (Ext.drew _))
          generalize wr.drew = ud at *
          have r13 : ∀ w', Ext ud w' → w'.cell? ⟨g13, 1, none⟩ = some (.int .u64 (s : Nat)) := fun w' hw => by have := (K13.out.ext hw).at.sq; rwa [Nat.zero_add] at this
          iterate 17 (refine wpGr_read (o := ⟨_, _, _, _, _, _⟩) (v := ?_) rfl (by rfl) ?_ ?_; rotate_left; (intro w' hw'; go_simp; with_reducible rfl); simp only [Act.put, List.setIfInBounds_toArray, List.set_cons_zero, List.set_cons_succ])
          refine wpGr_read (o := ⟨_, _, _, _, _, _⟩) (v := .agg (sc f)) rfl (by rfl) (fun w' hw' => rd_load_agg TS (.tmp 105) rfl g13 2 (sc f) (by rfl) agg_TS (by have := (K13.out.ext hw').at.pages; rwa [Nat.zero_add] at this) (sc_size _)) ?_
          simp only [Act.put, List.setIfInBounds_toArray, List.set_cons_zero, List.set_cons_succ]
          refine wpGr_read (o := ⟨_, _, _, _, _, _⟩) (v := .agg (sc f)) rfl (by rfl) (fun w' hw' => rd_load_agg TW (.tmp 5) rfl g5 0 (sc f) (by rfl) agg_TW (K5.out.ext hw').at (sc_size _)) ?_
          simp only [Act.put, List.setIfInBounds_toArray, List.set_cons_zero, List.set_cons_succ]
          refine wpGr_read (o := ⟨_, _, _, _, _, _⟩) (v := .bool true) rfl (by rfl) (fun w' hw' => rd_eql_sc (.tmp 106) (.tmp 107) _ rfl f f (by rfl) (by rfl) rfl) ?_
          simp only [Act.put, List.setIfInBounds_toArray, List.set_cons_zero, List.set_cons_succ]
          iterate 7 (refine wpGr_read (o := ⟨_, _, _, _, _, _⟩) (v := ?_) rfl (by rfl) ?_ ?_; rotate_left; (intro w' hw'; go_simp; with_reducible rfl); simp only [Act.put, List.setIfInBounds_toArray, List.set_cons_zero, List.set_cons_succ])
          clear r13
          refine wpGr_read (o := ⟨_, _, _, _, _, _⟩) (v := .agg PY) rfl (by rfl) (fun w' hw' => rd_load_agg PS (.tmp 8) rfl g8 0 PY (by rfl) agg_PS (K8.out.ext hw').at sPY) ?_
          simp only [Act.put, List.setIfInBounds_toArray, List.set_cons_zero, List.set_cons_succ]
          refine wpGr_read (o := ⟨_, _, _, _, _, _⟩) (v := .agg PX) rfl (by rfl) (fun w' hw' => rd_load_agg PS (.tmp 7) rfl g7 0 PX (by rfl) agg_PS (K7.out.ext hw').at sPX) ?_
          simp only [Act.put, List.setIfInBounds_toArray, List.set_cons_zero, List.set_cons_succ]
          refine wpGr_read (o := ⟨_, _, _, _, _, _⟩) (v := .agg (sc f)) rfl (by rfl) (fun w' hw' => rd_load_agg TW (.tmp 5) rfl g5 0 (sc f) (by rfl) agg_TW (K5.out.ext hw').at (sc_size _)) ?_
          simp only [Act.put, List.setIfInBounds_toArray, List.set_cons_zero, List.set_cons_succ]
          refine wpGr_call (o := ⟨_, _, _, _, _, _⟩) rfl (by rfl) (fun K hK => ?_)
          try go_simp
          refine (CHy.out ud EY.out).mono ?_
          rintro e u7 ⟨rfl, hb⟩
          refine hK _ _ hb ?_
          clear hK K
          replace HB := Lib.hid (HB.out.trans (Below.mono hb HB.out.size))
          replace HG := Lib.hid (HG.out.below hb)
          replace AV := Lib.hid (AV.out.ext hb)
          replace K3 := Lib.hid (K3.out.ext hb)
          replace K5 := Lib.hid (K5.out.ext hb)
          replace EX := Lib.hid (EX.out.ext hb)
          replace K7 := Lib.hid (K7.out.ext hb)
          replace EY := Lib.hid (EY.out.ext hb)
          replace K8 := Lib.hid (K8.out.ext hb)
          replace EZ := Lib.hid (EZ.out.ext hb)
          replace K11 := Lib.hid (K11.out.ext hb)
          replace K13 := Lib.hid (K13.out.ext hb)
          clear hb
          try simp only [Act.put, List.setIfInBounds_toArray, List.set_cons_zero, List.set_cons_succ]
          refine wpGr_call (o := ⟨_, _, _, _, _, _⟩) rfl (by rfl) (fun K hK => ?_)
          try go_simp
          refine (CHx.out u7 EX.out).mono ?_
          rintro e u8 ⟨rfl, hb⟩
          refine hK _ _ hb ?_
          clear hK K
          replace HB := Lib.hid (HB.out.trans (Below.mono hb HB.out.size))
          replace HG := Lib.hid (HG.out.below hb)
          replace AV := Lib.hid (AV.out.ext hb)
          replace K3 := Lib.hid (K3.out.ext hb)
          replace K5 := Lib.hid (K5.out.ext hb)
          replace EX := Lib.hid (EX.out.ext hb)
          replace K7 := Lib.hid (K7.out.ext hb)
          replace EY := Lib.hid (EY.out.ext hb)
          replace K8 := Lib.hid (K8.out.ext hb)
          replace EZ := Lib.hid (EZ.out.ext hb)
          replace K11 := Lib.hid (K11.out.ext hb)
          replace K13 := Lib.hid (K13.out.ext hb)
          clear hb
          try simp only [Act.put, List.setIfInBounds_toArray, List.set_cons_zero, List.set_cons_succ]
          refine wpGr_call (o := ⟨_, _, _, _, _, _⟩) rfl (by rfl) (fun K hK => ?_)
          try go_simp
          refine (CE.out u8).mono ?_
          rintro e u9 ⟨rfl, hb⟩
          refine hK _ _ hb ?_
          clear hK K
          replace HB := Lib.hid (HB.out.trans (Below.mono hb HB.out.size))
          replace HG := Lib.hid (HG.out.below hb)
          replace AV := Lib.hid (AV.out.ext hb)
          replace K3 := Lib.hid (K3.out.ext hb)
          replace K5 := Lib.hid (K5.out.ext hb)
          replace EX := Lib.hid (EX.out.ext hb)
          replace K7 := Lib.hid (K7.out.ext hb)
          replace EY := Lib.hid (EY.out.ext hb)
          replace K8 := Lib.hid (K8.out.ext hb)
          replace EZ := Lib.hid (EZ.out.ext hb)
          replace K11 := Lib.hid (K11.out.ext hb)
          replace K13 := Lib.hid (K13.out.ext hb)
          clear hb
          try simp only [Act.put, List.setIfInBounds_toArray, List.set_cons_zero, List.set_cons_succ]
          refine wpGr_read (o := ⟨_, _, _, _, _, _⟩) (v := .bool true) rfl (by rfl) (fun w' hw' => rd_eql_sc (.tmp 117) (.tmp 121) _ rfl HY HY (by rfl) (by rfl) rfl) ?_
          simp only [Act.put, List.setIfInBounds_toArray, List.set_cons_zero, List.set_cons_succ]
          iterate 2 (refine wpGr_read (o := ⟨_, _, _, _, _, _⟩) (v := ?_) rfl (by rfl) ?_ ?_; rotate_left; (intro w' hw'; go_simp; with_reducible rfl); simp only [Act.put, List.setIfInBounds_toArray, List.set_cons_zero, List.set_cons_succ])
          refine wpGr_read (o := ⟨_, _, _, _, _, _⟩) (v := .agg PZ) rfl (by rfl) (fun w' hw' => rd_load_agg PS (.tmp 11) rfl g11 0 PZ (by rfl) agg_PS (K11.out.ext hw').at sPZ) ?_
          simp only [Act.put, List.setIfInBounds_toArray, List.set_cons_zero, List.set_cons_succ]
          refine wpGr_read (o := ⟨_, _, _, _, _, _⟩) (v := .agg PX) rfl (by rfl) (fun w' hw' => rd_load_agg PS (.tmp 7) rfl g7 0 PX (by rfl) agg_PS (K7.out.ext hw').at sPX) ?_
          simp only [Act.put, List.setIfInBounds_toArray, List.set_cons_zero, List.set_cons_succ]
          refine wpGr_call (o := ⟨_, _, _, _, _, _⟩) rfl (by rfl) (fun K hK => ?_)
          try go_simp
          refine (CHz.out u9 EZ.out).mono ?_
          rintro e u10 ⟨rfl, hb⟩
          refine hK _ _ hb ?_
          clear hK K
          replace HB := Lib.hid (HB.out.trans (Below.mono hb HB.out.size))
          replace HG := Lib.hid (HG.out.below hb)
          replace AV := Lib.hid (AV.out.ext hb)
          replace K3 := Lib.hid (K3.out.ext hb)
          replace K5 := Lib.hid (K5.out.ext hb)
          replace EX := Lib.hid (EX.out.ext hb)
          replace K7 := Lib.hid (K7.out.ext hb)
          replace EY := Lib.hid (EY.out.ext hb)
          replace K8 := Lib.hid (K8.out.ext hb)
          replace EZ := Lib.hid (EZ.out.ext hb)
          replace K11 := Lib.hid (K11.out.ext hb)
          replace K13 := Lib.hid (K13.out.ext hb)
          clear hb
          try simp only [Act.put, List.setIfInBounds_toArray, List.set_cons_zero, List.set_cons_succ]
          refine wpGr_call (o := ⟨_, _, _, _, _, _⟩) rfl (by rfl) (fun K hK => ?_)
          try go_simp
          refine (CHx.out u10 EX.out).mono ?_
          rintro e u11 ⟨rfl, hb⟩
          refine hK _ _ hb ?_
          clear hK K
          replace HB := Lib.hid (HB.out.trans (Below.mono hb HB.out.size))
          replace HG := Lib.hid (HG.out.below hb)
          replace AV := Lib.hid (AV.out.ext hb)
          replace K3 := Lib.hid (K3.out.ext hb)
          replace K5 := Lib.hid (K5.out.ext hb)
          replace EX := Lib.hid (EX.out.ext hb)
          replace K7 := Lib.hid (K7.out.ext hb)
          replace EY := Lib.hid (EY.out.ext hb)
          replace K8 := Lib.hid (K8.out.ext hb)
          replace EZ := Lib.hid (EZ.out.ext hb)
          replace K11 := Lib.hid (K11.out.ext hb)
          replace K13 := Lib.hid (K13.out.ext hb)
          clear hb
          try simp only [Act.put, List.setIfInBounds_toArray, List.set_cons_zero, List.set_cons_succ]
          refine wpGr_read (o := ⟨_, _, _, _, _, _⟩) (v := .bool true) rfl (by rfl) (fun w' hw' => rd_eql_sc (.tmp 126) (.tmp 128) _ rfl HX HX (by rfl) (by rfl) rfl) ?_
          simp only [Act.put, List.setIfInBounds_toArray, List.set_cons_zero, List.set_cons_succ]
          have s1 : ∀ w', Ext u11 w' → w'.cell? ⟨g11, 1, none⟩ = some (.slice az n cz) := fun w' hw => by have := K11.out.ext hw; rw [← HPZ.out] at this; exact this.ps1
          have s2 : ∀ w', Ext u11 w' → w'.cell? ⟨g7, 1, none⟩ = some (.slice ax n cx) := fun w' hw => by have := K7.out.ext hw; rw [← HPX.out] at this; exact this.ps1
          have s3 : ∀ w', Ext u11 w' → w'.cell? ⟨g11, 0, none⟩ = some (.int .u64 (M : Nat)) := fun w' hw => by have := K11.out.ext hw; rw [← HPZ.out] at this; exact this.ps0
          have s4 : ∀ w', Ext u11 w' → w'.cell? ⟨g7, 0, none⟩ = some (.int .u64 (N : Nat)) := fun w' hw => by have := K7.out.ext hw; rw [← HPX.out] at this; exact this.ps0
          iterate 19 (refine wpGr_read (o := ⟨_, _, _, _, _, _⟩) (v := ?_) rfl (by rfl) ?_ ?_; rotate_left; (intro w' hw'; go_simp; with_reducible rfl); simp only [Act.put, List.setIfInBounds_toArray, List.set_cons_zero, List.set_cons_succ])
          clear s1 s2 s3 s4
          refine wpGr_call (o := ⟨_, _, _, _, _, _⟩) rfl (by rfl) (fun K hK => ?_)
          try go_simp
          refine (CS.out u11 HG.out).mono ?_
          rintro e u12 ⟨rfl, hb⟩
          refine hK _ _ hb ?_
          clear hK K
          replace HB := Lib.hid (HB.out.trans (Below.mono hb HB.out.size))
          replace HG := Lib.hid (HG.out.below hb)
          replace AV := Lib.hid (AV.out.ext hb)
          replace K3 := Lib.hid (K3.out.ext hb)
          replace K5 := Lib.hid (K5.out.ext hb)
          replace EX := Lib.hid (EX.out.ext hb)
          replace K7 := Lib.hid (K7.out.ext hb)
          replace EY := Lib.hid (EY.out.ext hb)
          replace K8 := Lib.hid (K8.out.ext hb)
          replace EZ := Lib.hid (EZ.out.ext hb)
          replace K11 := Lib.hid (K11.out.ext hb)
          replace K13 := Lib.hid (K13.out.ext hb)
          clear hb
          try simp only [Act.put, List.setIfInBounds_toArray, List.set_cons_zero, List.set_cons_succ]
          iterate 2 (refine wpGr_read (o := ⟨_, _, _, _, _, _⟩) (v := ?_) rfl (by rfl) ?_ ?_; rotate_left; (intro w' hw'; go_simp; with_reducible rfl); simp only [Act.put, List.setIfInBounds_toArray, List.set_cons_zero, List.set_cons_succ])
          refine wpGr_done ?_
          go_wp2
          go_ret
          exact ⟨rfl, HB.out⟩
end Go.Proofs.YtdgcghknfhhkiaaDoor
