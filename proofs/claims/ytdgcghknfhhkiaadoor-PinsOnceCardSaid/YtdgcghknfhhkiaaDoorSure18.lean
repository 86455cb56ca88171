/-
  The law's sure.
-/
import Derived.Test.YtdgcghknfhhkiaaDoorPinClose
import Derived.Test.YtdgcghknfhhkiaaDoorPinHeld
import Derived.Test.YtdgcghknfhhkiaaDoorPinOld
import Derived.Test.YtdgcghknfhhkiaaDoorBelow
import Derived.Test.YtdgcghknfhhkiaaDoorNum2
namespace Go.Proofs.YtdgcghknfhhkiaaDoor
open Go Go.RowKit

section
variable {ops : Array Oper} {rest : List Oper} {o : Oper} {a : Act} {w : World} {K : Act → World → Prop} {Q : Exit → Act → World → Prop}
/-- Two sets that are the same, compared under a guard that holds. -/
theorem wpList_eql_sc_when (hw : Region.wanted o (yielded ops a.tmps) = true) (x y : Operand) (rt : TypeId) (ho : o.op = .binOp .eql TS x y rt) (f g : Nat → Bool) (hx : a.eval x = .agg (sc f)) (hy : a.eval y = .agg (sc g)) (h : sc g = sc f)
    (hk : wpList Tryd.prog ops Q rest (a.put o.dst (.bool true)) w) : wpList Tryd.prog ops Q (o :: rest) a w :=
  wpList_step fun K hK => by
    rw [if_pos hw]
    unfold Oper.wp
    rw [rd_eql_sc x y rt ho f g hx hy h]
    exact hK _ _ hk
end
theorem psv_one {w : World} {N : Nat} {v : Value} {l : List Pn} (h : EV pinE w v l) : (psv N v).all (·.oneCell') = true := by
  obtain ⟨a, c, rfl, _⟩ := h
  simp [Value.oneCell']
theorem p1_may (F : Nat → Bool) : pmayB [⟨1, 7, F⟩] 1 = true := by rfl
theorem p1_fi (F : Nat → Bool) : fiE [⟨1, 7, F⟩] 1 1 = 0 ∧ fiA [⟨1, 7, F⟩] 1 1 = ((0 : Nat) : Int) := by
  have h : pfi 1 [⟨1, 7, F⟩] 0 = ((0 : Nat) : Int) := rfl
  exact ⟨fiE_at (p1_may F) h, fiA_at (p1_may F) h⟩
theorem p0_fi : fiE [] 1 1 = 6 ∧ gtP [] 1 1 = pn0 := by
  have h : fiE [] 1 1 = 6 := fiE_none rfl rfl
  exact ⟨h, by unfold gtP; rw [h, if_neg (by decide)]⟩
theorem p1_old (F : Nat → Bool) : olT [⟨1, 7, F⟩] 1 = 7 ∧ olB [⟨1, 7, F⟩] 1 = true := ⟨by unfold olT; rw [if_pos (p1_may F)]; rfl, by unfold olB; rw [p1_may F]; rfl⟩
theorem p1_held (F : Nat → Bool) : hdR [⟨1, 7, F⟩] 1 = F := by unfold hdR; rw [if_pos (p1_may F)]; funext m; simp [heldR]
set_option maxRecDepth 100000 in
set_option maxHeartbeats 4000000 in
theorem psure_any (w : World) (hg : Hg w) : Calls Tryd.prog 6 #[] w fun e w' => e = .returned (.bool true) ∧ Below w.heap.size w w' := by
  have HG := Lib.hid hg
  have HB := Lib.hid (Below.refl w.heap.size w)
  have C1 := Lib.hid (fun w => below_any 2 w (by omega))
  obtain ⟨F, hF⟩ : ∃ F : Nat → Bool, belowR 2 = F := ⟨_, rfl⟩
  rw [hF] at C1
  have C2 := Lib.hid (fun w => open_yes pnil [] 0 7 F w (EV.none w) rfl (by decide) (by decide))
  have C3 := Lib.hid (fun v w h => close_at v [⟨1, 7, F⟩] 1 1 0 w h (p1_fi F).1 (p1_fi F).2 (Nat.zero_lt_succ _) (Nat.le_add_left 1 7))
  have C4 := Lib.hid (fun v w h => oldest_any v [⟨1, 7, F⟩] 1 w h)
  have C5 := Lib.hid (fun v w h => get_any v [] 1 1 w h)
  have C6 := Lib.hid (fun w h => num_any (errC 6) 6 w (errC_is 6) h)
  have C7 := Lib.hid (fun v w h => held_any v [⟨1, 7, F⟩] 1 w h)
  rw [(p1_old F).1, (p1_old F).2] at C4
  rw [p0_fi.1, p0_fi.2] at C5
  rw [p1_held F] at C7
  rw [show pdel [(⟨1, 7, F⟩ : Pn)] 0 = [] from rfl] at C3
  rw [errC_0] at C2 C3
  rw [List.nil_append, show ((0 + 1 : Nat)) = 1 from rfl] at C2
  generalize hL : [(⟨1, 7, F⟩ : Pn)] = L at *
  clear hg hF hL
  go_enter Tryd.func6, Tryd.ntmps6
  go_wp2_with fail
  refine (C1.out w).mono ?_
  rintro e u1 ⟨rfl, hb⟩
  replace HB := Lib.hid (HB.out.trans (Below.mono hb HB.out.size))
  replace HG := Lib.hid (HG.out.below hb)
  clear hb
  go_wp2_with fail
  refine (C2.out u1).mono ?_
  rintro e u2 ⟨v2, rfl, hv2, hb⟩
  replace HB := Lib.hid (HB.out.trans (Below.mono hb HB.out.size))
  replace HG := Lib.hid (HG.out.below hb)
  clear hb
  have EP := Lib.hid hv2
  obtain ⟨PP, hPP⟩ : ∃ P, psv 1 v2 = P := ⟨_, rfl⟩
  have sPP : PP.size = 2 := by rw [← hPP]; rfl
  have oPP : PP.all (·.oneCell') = true := by rw [← hPP]; exact psv_one hv2
  rw [hPP]
  clear hv2
  go_wp2_with (first
    | (show wpList _ _ _ (⟨some 1, _, _, _, _, _⟩ :: _) _ _; refine wpList_alloc_arr rfl PS rfl arrz_PS ?_; intro g1 wa1 hg1 hk1 hb1)
    | (refine wpList_store_agg rfl PS (.tmp 1) (.tmp 14) rfl g1 PP _ PS (by rfl) (by rfl) agg_PS hk1 sPP rfl oPP ?_; intro wv1 hj1 ht1 hs1; have bb1 : Ext u2 wv1 := hb1.trans (ht1.below hb1.size (fun i hi => by subst hi; exact hg1)); replace HB := Lib.hid (HB.out.trans (Below.mono bb1 HB.out.size)); replace HG := Lib.hid (HG.out.below bb1); replace EP := Lib.hid (EP.out.ext bb1); have K1 := Lib.hid hj1; have Q1 := Lib.hid hg1; clear hg1 hk1 hb1 hj1 ht1 hs1 bb1)
    | (refine wpList_load_agg rfl PS (.tmp 1) rfl g1 0 PP (by rfl) agg_PS K1.out.at sPP ?_))
  have c3 := C3.out v2 wv1 EP.out
  rw [hPP] at c3
  refine (c3).mono ?_
  rintro e u3 ⟨v3, rfl, hv3, hb⟩
  replace HB := Lib.hid (HB.out.trans (Below.mono hb HB.out.size))
  replace HG := Lib.hid (HG.out.below hb)
  replace EP := Lib.hid (EP.out.ext hb)
  replace K1 := Lib.hid (K1.out.ext hb)
  clear hb
  have EQ := Lib.hid hv3
  obtain ⟨PQ, hPQ⟩ : ∃ P, psv 1 v3 = P := ⟨_, rfl⟩
  have sPQ : PQ.size = 2 := by rw [← hPQ]; rfl
  have oPQ : PQ.all (·.oneCell') = true := by rw [← hPQ]; exact psv_one hv3
  rw [hPQ]
  clear hv3
  go_wp2_with (first
    | (show wpList _ _ _ (⟨some 4, _, _, _, _, _⟩ :: _) _ _; refine wpList_alloc_arr rfl PS rfl arrz_PS ?_; intro g4 wa4 hg4 hk4 hb4)
    | (refine wpList_store_agg rfl PS (.tmp 4) (.tmp 21) rfl g4 PQ _ PS (by rfl) (by rfl) agg_PS hk4 sPQ rfl oPQ ?_; intro wv4 hj4 ht4 hs4; have bb4 : Ext u3 wv4 := hb4.trans (ht4.below hb4.size (fun i hi => by subst hi; exact hg4)); replace HB := Lib.hid (HB.out.trans (Below.mono bb4 HB.out.size)); replace HG := Lib.hid (HG.out.below bb4); replace EP := Lib.hid (EP.out.ext bb4); replace K1 := Lib.hid (K1.out.ext bb4); replace EQ := Lib.hid (EQ.out.ext bb4); have K4 := Lib.hid hj4; have Q4 := Lib.hid hg4; clear hg4 hk4 hb4 hj4 ht4 hs4 bb4)
    | (refine wpList_load_agg rfl PS (.tmp 1) rfl g1 0 PP (by rfl) agg_PS K1.out.at sPP ?_)
    | (refine wpList_load_agg rfl PS (.tmp 4) rfl g4 0 PQ (by rfl) agg_PS K4.out.at sPQ ?_))
  have c4 := C4.out v2 wv4 EP.out
  rw [hPP] at c4
  refine (c4).mono ?_
  rintro e u4 ⟨rfl, hb⟩
  replace HB := Lib.hid (HB.out.trans (Below.mono hb HB.out.size))
  replace HG := Lib.hid (HG.out.below hb)
  replace EP := Lib.hid (EP.out.ext hb)
  replace K1 := Lib.hid (K1.out.ext hb)
  replace EQ := Lib.hid (EQ.out.ext hb)
  replace K4 := Lib.hid (K4.out.ext hb)
  clear hb
  go_wp2_with (first
    | (refine wpList_load_agg rfl PS (.tmp 1) rfl g1 0 PP (by rfl) agg_PS K1.out.at sPP ?_)
    | (refine wpList_load_agg rfl PS (.tmp 4) rfl g4 0 PQ (by rfl) agg_PS K4.out.at sPQ ?_))
  have c5 := C5.out v3 u4 EQ.out
  rw [hPQ] at c5
  refine (c5).mono ?_
  rintro e u5 ⟨rfl, hb⟩
  replace HB := Lib.hid (HB.out.trans (Below.mono hb HB.out.size))
  replace HG := Lib.hid (HG.out.below hb)
  replace EP := Lib.hid (EP.out.ext hb)
  replace K1 := Lib.hid (K1.out.ext hb)
  replace EQ := Lib.hid (EQ.out.ext hb)
  replace K4 := Lib.hid (K4.out.ext hb)
  clear hb
  go_wp2_with (first
    | (show wpList _ _ _ (⟨some 8, _, _, _, _, _⟩ :: _) _ _; refine wpList_alloc_arr rfl PT rfl arrz_PT ?_; intro g8 wa8 hg8 hk8 hb8)
    | (refine wpList_store_agg rfl PT (.tmp 8) (.tmp 32) rfl g8 (pv pn0) _ PT (by rfl) (by rfl) agg_PT hk8 (pv_size _) (pv_size _) (pv_one _) ?_; intro wv8 hj8 ht8 hs8; have bb8 : Ext u5 wv8 := hb8.trans (ht8.below hb8.size (fun i hi => by subst hi; exact hg8)); replace HB := Lib.hid (HB.out.trans (Below.mono bb8 HB.out.size)); replace HG := Lib.hid (HG.out.below bb8); replace EP := Lib.hid (EP.out.ext bb8); replace K1 := Lib.hid (K1.out.ext bb8); replace EQ := Lib.hid (EQ.out.ext bb8); replace K4 := Lib.hid (K4.out.ext bb8); have K8 := Lib.hid hj8; have Q8 := Lib.hid hg8; clear hg8 hk8 hb8 hj8 ht8 hs8 bb8)
    | (refine wpList_load_agg rfl PS (.tmp 1) rfl g1 0 PP (by rfl) agg_PS K1.out.at sPP ?_)
    | (refine wpList_load_agg rfl PS (.tmp 4) rfl g4 0 PQ (by rfl) agg_PS K4.out.at sPQ ?_)
    | (refine wpList_load_agg rfl PT (.tmp 8) rfl g8 0 (pv pn0) (by rfl) agg_PT K8.out.at (pv_size _) ?_))
  refine (C6.out wv8 HG.out).mono ?_
  rintro e u6 ⟨rfl, hb⟩
  replace HB := Lib.hid (HB.out.trans (Below.mono hb HB.out.size))
  replace HG := Lib.hid (HG.out.below hb)
  replace EP := Lib.hid (EP.out.ext hb)
  replace K1 := Lib.hid (K1.out.ext hb)
  replace EQ := Lib.hid (EQ.out.ext hb)
  replace K4 := Lib.hid (K4.out.ext hb)
  replace K8 := Lib.hid (K8.out.ext hb)
  clear hb
  go_wp2_with (first
    | (refine wpList_load_agg_when (by rfl) PS (.tmp 1) rfl g1 0 PP (by rfl) agg_PS K1.out.at sPP ?_)
    | (refine wpList_load_agg_when (by rfl) PS (.tmp 4) rfl g4 0 PQ (by rfl) agg_PS K4.out.at sPQ ?_)
    | (refine wpList_load_agg_when (by rfl) PT (.tmp 8) rfl g8 0 (pv pn0) (by rfl) agg_PT K8.out.at (pv_size _) ?_))
  have c7 := C7.out v2 u6 EP.out
  rw [hPP] at c7
  refine (c7).mono ?_
  rintro e u7 ⟨rfl, hb⟩
  replace HB := Lib.hid (HB.out.trans (Below.mono hb HB.out.size))
  replace HG := Lib.hid (HG.out.below hb)
  replace EP := Lib.hid (EP.out.ext hb)
  replace K1 := Lib.hid (K1.out.ext hb)
  replace EQ := Lib.hid (EQ.out.ext hb)
  replace K4 := Lib.hid (K4.out.ext hb)
  replace K8 := Lib.hid (K8.out.ext hb)
  clear hb
  go_wp2_with (first
    | (refine wpList_load_agg_when (by rfl) PS (.tmp 1) rfl g1 0 PP (by rfl) agg_PS K1.out.at sPP ?_)
    | (refine wpList_load_agg_when (by rfl) PS (.tmp 4) rfl g4 0 PQ (by rfl) agg_PS K4.out.at sPQ ?_)
    | (refine wpList_load_agg_when (by rfl) PT (.tmp 8) rfl g8 0 (pv pn0) (by rfl) agg_PT K8.out.at (pv_size _) ?_))
  refine (C1.out u7).mono ?_
  rintro e u8 ⟨rfl, hb⟩
  replace HB := Lib.hid (HB.out.trans (Below.mono hb HB.out.size))
  replace HG := Lib.hid (HG.out.below hb)
  replace EP := Lib.hid (EP.out.ext hb)
  replace K1 := Lib.hid (K1.out.ext hb)
  replace EQ := Lib.hid (EQ.out.ext hb)
  replace K4 := Lib.hid (K4.out.ext hb)
  replace K8 := Lib.hid (K8.out.ext hb)
  clear hb
  have q0 : u8.cell? ⟨g4, 0, none⟩ = some (.int .u64 ((1 : Nat) : Int)) := by have := K4.out; rw [← hPQ] at this; exact this.ps0
  rw [show ((1 : Nat) : Int) = 1 from rfl] at q0
  go_wp2_with (first
    | (refine wpList_eql_sc_when (by rfl) (.tmp 58) (.tmp 59) _ rfl F F (by rfl) (by rfl) rfl ?_))
  go_ret
  exact ⟨rfl, HB.out⟩
  end Go.Proofs.YtdgcghknfhhkiaaDoor
