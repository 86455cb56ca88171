/-
  What the law PlanFew stands on.
-/
import Derived.Test.YtdgladhfibfdlaaGreatDoorQPlanFew44
import Derived.Test.YtdgladhfibfdlaaGreatDoorQPlanFew12
namespace Go.Proofs.YtdgladhfibfdlaaGreatDoor
open Go Go.RowKit
structure One (t : Tr) : Prop where
  mi : ∀ P, MixI P [t]
  en : (esL [t]).length = 1
  nd : needL [t] = 1
  pg : t.pg = 0
  u : uL [t] = []
theorem One.c9 {t : Tr} (h : One t) : needL [t] ≤ cnt (freeP (belowR 9) [t]) 1024 := by
  have := cnt_free (ts := [t]) 9 (by omega) (by omega) h.u
  rw [h.nd]
  exact Nat.le_trans (by omega) (Nat.le_of_eq this.symm)
theorem One.c2 {t : Tr} (h : One t) : cnt (freeP (belowR 2) [t]) 1024 < needL [t] := by
  have := cnt_free (ts := [t]) 2 (by omega) (by omega) h.u
  rw [h.nd]
  exact Nat.lt_of_le_of_lt (Nat.le_of_eq this) (by omega)
theorem One.lay {t : Tr} (h : One t) {f : Nat → Bool} (hc : needL [t] ≤ cnt (freeP f [t]) 1024) : ∃ q bs u, layL [t] (takP f [t]) = [u] ∧ wrL [t] (takP f [t]) = [(q, bs)] ∧ u.pg = q ∧ q ∈ uL [u] ∧ (2 ≤ q ∧ q < 1024) ∧ LieI (pgF (layP (List.replicate 1024 []) (wrL [t] (takP f [t])))) [u] := by
  have h1 := takP_len hc
  have h2 := takP_fst hc
  have h3 := wrL_len [t] (takP f [t])
  rw [h.nd] at h1 h3
  obtain ⟨q, hq⟩ := List.length_eq_one_iff.1 h1
  obtain ⟨⟨q2, bs⟩, hw⟩ := List.length_eq_one_iff.1 h3
  have h4 := takP_mem (f := f) (ts := [t]) (x := q) (by rw [hq]; simp)
  have h5 := (h.mi _).laid hc (PL := List.replicate 1024 []) List.length_replicate
  have e1 : layL [t] (takP f [t]) = [layT t (takP f [t])] := by rw [layL, layL]
  rw [e1] at h5
  rw [hw, hq] at h2
  simp only [List.map_cons, List.map_nil, List.cons.injEq, and_true] at h2
  subst h2
  have h6 : (layT t (takP f [t])).pg = q2 := by
    rw [layT_pgv t _ h.pg, hq]
    have := h.nd
    rw [needL_one] at this
    rw [this]; rfl
  refine ⟨q2, bs, _, e1, hw, h6, ?_, ⟨h4.2.1, h4.2.2.1⟩, h5⟩
  rw [← e1, mem_lay hc]
  exact .inr (by rw [hq]; simp)
theorem inB_used {l : List Nat} {q : Nat} (h : q ∈ l) (hq : q < 1024) : inB (addR (fun _ => false) l) (q : Int) = true := by
  rw [inB_nat _ _ hq]
  unfold addR; simp [h]
theorem sure_put (w : World) : Calls Tryz.prog 29 #[.agg #[.pointer none, .int .i64 0], .string ⟨#[97]⟩, .string ⟨#[120]⟩] w fun e w' => ∃ p H t, e = .returned (.tuple #[.agg #[.pointer p, .int .i64 1], .nilIface]) ∧ TreeT w' p [t] H ∧ One t ∧ Below w.heap.size w w' := by
  have h := put_new none [] 0 ⟨#[97]⟩ ⟨#[120]⟩ w (NewP.none w) (by simp) (by decide)
  obtain ⟨h1, h2⟩ := tp_ok (es := []) (key := ⟨#[97]⟩) (v := ⟨#[120]⟩) (by decide) (by decide) (by simp)
  have e1 : rep [] ⟨#[97]⟩ [⟨⟨#[97]⟩, ⟨#[120]⟩, []⟩] = [(⟨⟨#[97]⟩, ⟨#[120]⟩, []⟩ : En)] := by simp [rep]
  rw [h1, h2, e1] at h
  refine h.mono ?_
  rintro e w' ⟨p, H, rfl, hn, hb⟩
  obtain ⟨ts, g1, g2, g3, g4, g5, g6⟩ := hn.lay
  obtain ⟨t, rfl, g7, g8, g9⟩ := g6 (by simp)
  have e2 : cNs [(⟨⟨#[97]⟩, ⟨#[120]⟩, []⟩ : En)] = 0 := by decide
  rw [e2] at g9
  simp only [List.length_singleton] at g9
  exact ⟨p, H, t, rfl, g1, ⟨g4, by rw [g2]; rfl, by rw [needL_one]; omega, g7, g3⟩, hb⟩
set_option maxRecDepth 100000 in
set_option maxHeartbeats 2000000 in
theorem psure_any (w : World) (hg : Hg w) (hwo : WorthIn w) (hT : TabIn w) :
    Calls Tryz.prog 17 #[] w fun e w' => e = .returned (.bool true) ∧ Below w.heap.size w w' := by
  have HG := Lib.hid hg
  have HW := Lib.hid hwo
  have HA := Lib.hid hT
  have HB := Lib.hid (Below.refl w.heap.size w)
  have Hput := Lib.hid (sure_put w)
  clear hg hwo hT
  go_enter Tryz.func17, Tryz.ntmps17
  go_wp2_with fail
  refine (Hput.out).mono ?_
  rintro e v1 ⟨p, H, t, rfl, htr, hfs, hb⟩
  replace HB := Lib.hid (HB.out.trans (Below.mono hb HB.out.size))
  replace HG := Lib.hid (HG.out.below hb)
  replace HW := Lib.hid (HW.out.below hb)
  replace HA := Lib.hid (HA.out.below hb)
  clear hb
  obtain ⟨q, bs, u, hu, hws, hup, hqu, hq2, hlie⟩ := hfs.lay hfs.c9
  have HX := Lib.hid hfs
  have HTR := Lib.hid htr
  have HLi := Lib.hid (And.intro hup (And.intro hqu (And.intro hq2 hlie)))
  have Hlw := Lib.hid (And.intro hu hws)
  clear hfs htr Hput hup hqu hq2 hlie hu hws
  obtain ⟨v2, hv2, hT, hb⟩ := alloc_own v1 TT #[.pointer p, .int .i64 1]
  replace HB := Lib.hid (HB.out.trans (Below.mono hb HB.out.size))
  replace HG := Lib.hid (HG.out.below hb)
  replace HW := Lib.hid (HW.out.below hb)
  replace HA := Lib.hid (HA.out.below hb)
  replace HTR := Lib.hid (HTR.out.ext hb)
  have K1 : Hid (TB v2 v1.heap.size p 1) := hT
  have Hv2 := Lib.hid hv2
  clear hv2 hT hb
  have HL : Hid (∀ w', Below v2.heap.size v2 w' → LayC p 1 (belowR 9) .nilIface 1 [u] H [(q, bs)] w') := fun w' hb => by
    rw [← Hlw.out.1, ← Hlw.out.2]
    exact lay_yesC (fun _ => []) _ p [t] H 1 w' (HTR.out.ext hb) (HX.out.mi _) HX.out.en (by omega) (HX.out.c9) (HW.out.below hb) (HA.out.below hb)
  go_upto_region 2 with fail
  rw [Hv2.out]
  go_cut [3, 4, 5] (fun su sw se wx => ∃ (gU : Nat) (pU : Option Addr) (vU : Value), su = .pointer (some ⟨gU, 0, none⟩) ∧ sw = vU ∧ se = .nilIface ∧ Hid (LR v2 wx gU pU 1 vU [u] H [(q, bs)]))
  case first =>
    obtain ⟨u0, hu0, hc⟩ : ∃ u, v2.drew = u ∧ Below v2.heap.size v2 u := ⟨_, rfl, (Below.refl _ _).drew⟩
    have hT0 := TB.ext K1.out hc
    have hlt := hT0.lt
    have HU0 := Lib.hid hu0
    have hz : u0.heap.size ≤ u0.heap.size := Nat.le_refl _
    have q0 := fun w' (t : Turn (fun i => u0.heap.size ≤ i) u0 w') => (hT0.turn t (by omega)).c0
    have q1 := fun w' (t : Turn (fun i => u0.heap.size ≤ i) u0 w') => (hT0.turn t (by omega)).c1
    clear hu0
    refine wp_region_gs (F := fun i => u0.heap.size ≤ i) (.rd 0 (.two 1 (.two 2 (.rd 3 (.rd 4 (.rd 5 (.rd 6 (.call 7 (.call 8 (.rd 9 (.rd 10 .done)))))))) 7 (.call 2 (.rd 3 (.rd 4 (.rd 5 (.rd 6 (.call 8 (.rd 9 (.rd 10 .done))))))))) 7 (.call 1 (.call 2 (.rd 3 (.rd 4 (.rd 5 (.rd 6 (.call 8 (.rd 9 (.rd 10 .done))))))))))) (by kernel_rfl) (by kernel_rfl) (by kernel_rfl) (by kernel_rfl) (fun _ _ _ _ _ h => h) ?_
    rw [HU0.out]
    (refine wpGs_read (o := ⟨_, _, _, _, _, _⟩) (v := ?_) rfl (by rfl) ?_ ?_; rotate_left; (intro w' hw'; go_simp; with_reducible rfl); simp only [Act.put, List.setIfInBounds_toArray, List.set_cons_zero, List.set_cons_succ])
    clear q0 q1 hT0 hlt HU0
    refine ⟨?_, ?_⟩
    · refine stepS_call (o := ⟨_, _, _, _, _, _⟩) rfl (by rfl) (fun K hK => ?_)
      go_simp
      refine (below_any 9 _ (by omega)).mono ?_
      rintro e uB ⟨rfl, hb⟩
      refine hK _ _ (Turn.ofBelow hb) ?_
      clear hK K
      replace hc := hc.trans (hb.mono hc.size)
      replace hz := Nat.le_trans hz hb.size
      clear hb
      refine ⟨?_, ?_⟩
      · refine stepS_call (o := ⟨_, _, _, _, _, _⟩) rfl (by rfl) (fun K hK => ?_)
        go_simp
        refine (HL.out _ hc).mono ?_
        rintro e uL ⟨pU, vU, rfl, htr, hwv, hb⟩
        refine hK _ _ (Turn.ofBelow hb) ?_
        clear hK K
        replace hc := hc.trans (hb.mono hc.size)
        replace hz := Nat.le_trans hz hb.size
        clear hb
        iterate 4 (refine wpGs_read (o := ⟨_, _, _, _, _, _⟩) (v := ?_) rfl (by rfl) ?_ ?_; rotate_left; (intro w' hw'; go_simp; with_reducible rfl); simp only [Act.put, List.setIfInBounds_toArray, List.set_cons_zero, List.set_cons_succ])
        obtain ⟨uA, hA0, hA, hb⟩ := alloc_own uL TT #[.pointer none, .int .i64 0]
        have HA0 := Lib.hid hA0
        have hG : v2.heap.size ≤ uL.heap.size := hc.size
        have hG0 : u0.heap.size ≤ uL.heap.size := hz
        replace hA : TB uA uL.heap.size none 0 := hA
        clear hA0
        refine stepS_call (o := ⟨_, _, _, _, _, _⟩) rfl (by rfl) (fun K hK => ?_)
        go_simp
        rw [HA0.out]
        refine hK _ _ (Turn.ofBelow hb) ?_
        clear hK K
        clear HA0
        try simp only [Act.put, List.setIfInBounds_toArray, List.set_cons_zero, List.set_cons_succ]
        replace hc := hc.trans (hb.mono hc.size)
        replace hz := Nat.le_trans hz hb.size
        replace htr := htr.ext hb
        replace hwv := hwv.ext hb
        clear hb
        have c0 := hA.c0
        have c1 := hA.c1
        have f0 := hA.fz 0
        have f1 := hA.fz 1
        have hfin := Lib.hid (LR.put (n := 1) hA hG htr hwv hc)
        have HT : Hid (Turn (fun i => u0.heap.size ≤ i) uA ((uA.setCell ⟨uL.heap.size, 0, none⟩ (.pointer pU)).setCell ⟨uL.heap.size, 1, none⟩ (.int .i64 (1 : Nat)))) := (turn_put _ _ _ _).mono (fun i hi _ => by subst hi; exact hG0)
        refine stepS_call (o := ⟨_, _, _, _, _, _⟩) rfl (by rfl) (fun K hK => ?_)
        go_simp
        refine hK _ _ HT.out ?_
        clear hK K c0 c1 f0 f1
        iterate 2 (refine wpGs_read (o := ⟨_, _, _, _, _, _⟩) (v := ?_) rfl (by rfl) ?_ ?_; rotate_left; (intro w' hw'; go_simp; with_reducible rfl); simp only [Act.put, List.setIfInBounds_toArray, List.set_cons_zero, List.set_cons_succ])
        refine wpGs_done ?_
        go_wp2
        go_meet
        exact ⟨_, _, _, rfl, rfl, rfl, hfin⟩
      · obtain ⟨uA, hA0, hA, hb⟩ := alloc_own uB TT #[.pointer none, .int .i64 0]
        have HA0 := Lib.hid hA0
        have hG : v2.heap.size ≤ uB.heap.size := hc.size
        have hG0 : u0.heap.size ≤ uB.heap.size := hz
        replace hA : TB uA uB.heap.size none 0 := hA
        clear hA0
        refine stepS_call (o := ⟨_, _, _, _, _, _⟩) rfl (by rfl) (fun K hK => ?_)
        go_simp
        rw [HA0.out]
        refine hK _ _ (Turn.ofBelow hb) ?_
        clear hK K
        clear HA0
        try simp only [Act.put, List.setIfInBounds_toArray, List.set_cons_zero, List.set_cons_succ]
        replace hc := hc.trans (hb.mono hc.size)
        replace hz := Nat.le_trans hz hb.size
        clear hb
        refine stepS_call (o := ⟨_, _, _, _, _, _⟩) rfl (by rfl) (fun K hK => ?_)
        go_simp
        refine (HL.out _ hc).mono ?_
        rintro e uL ⟨pU, vU, rfl, htr, hwv, hb⟩
        refine hK _ _ (Turn.ofBelow hb) ?_
        clear hK K
        replace hc := hc.trans (hb.mono hc.size)
        replace hz := Nat.le_trans hz hb.size
        replace hA := TB.ext hA hb
        clear hb
        iterate 4 (refine wpGs_read (o := ⟨_, _, _, _, _, _⟩) (v := ?_) rfl (by rfl) ?_ ?_; rotate_left; (intro w' hw'; go_simp; with_reducible rfl); simp only [Act.put, List.setIfInBounds_toArray, List.set_cons_zero, List.set_cons_succ])
        have c0 := hA.c0
        have c1 := hA.c1
        have f0 := hA.fz 0
        have f1 := hA.fz 1
        have hfin := Lib.hid (LR.put (n := 1) hA hG htr hwv hc)
        have HT : Hid (Turn (fun i => u0.heap.size ≤ i) uL ((uL.setCell ⟨uB.heap.size, 0, none⟩ (.pointer pU)).setCell ⟨uB.heap.size, 1, none⟩ (.int .i64 (1 : Nat)))) := (turn_put _ _ _ _).mono (fun i hi _ => by subst hi; exact hG0)
        refine stepS_call (o := ⟨_, _, _, _, _, _⟩) rfl (by rfl) (fun K hK => ?_)
        go_simp
        refine hK _ _ HT.out ?_
        clear hK K c0 c1 f0 f1
        iterate 2 (refine wpGs_read (o := ⟨_, _, _, _, _, _⟩) (v := ?_) rfl (by rfl) ?_ ?_; rotate_left; (intro w' hw'; go_simp; with_reducible rfl); simp only [Act.put, List.setIfInBounds_toArray, List.set_cons_zero, List.set_cons_succ])
        refine wpGs_done ?_
        go_wp2
        go_meet
        exact ⟨_, _, _, rfl, rfl, rfl, hfin⟩
    · obtain ⟨uA, hA0, hA, hb⟩ := alloc_own u0 TT #[.pointer none, .int .i64 0]
      have HA0 := Lib.hid hA0
      have hG : v2.heap.size ≤ u0.heap.size := hc.size
      have hG0 : u0.heap.size ≤ u0.heap.size := hz
      replace hA : TB uA u0.heap.size none 0 := hA
      clear hA0
      refine stepS_call (o := ⟨_, _, _, _, _, _⟩) rfl (by rfl) (fun K hK => ?_)
      go_simp
      rw [HA0.out]
      refine hK _ _ (Turn.ofBelow hb) ?_
      clear hK K
      clear HA0
      try simp only [Act.put, List.setIfInBounds_toArray, List.set_cons_zero, List.set_cons_succ]
      replace hc := hc.trans (hb.mono hc.size)
      replace hz := Nat.le_trans hz hb.size
      clear hb
      refine stepS_call (o := ⟨_, _, _, _, _, _⟩) rfl (by rfl) (fun K hK => ?_)
      go_simp
      refine (below_any 9 _ (by omega)).mono ?_
      rintro e uB ⟨rfl, hb⟩
      refine hK _ _ (Turn.ofBelow hb) ?_
      clear hK K
      replace hc := hc.trans (hb.mono hc.size)
      replace hz := Nat.le_trans hz hb.size
      replace hA := TB.ext hA hb
      clear hb
      refine stepS_call (o := ⟨_, _, _, _, _, _⟩) rfl (by rfl) (fun K hK => ?_)
      go_simp
      refine (HL.out _ hc).mono ?_
      rintro e uL ⟨pU, vU, rfl, htr, hwv, hb⟩
      refine hK _ _ (Turn.ofBelow hb) ?_
      clear hK K
      replace hc := hc.trans (hb.mono hc.size)
      replace hz := Nat.le_trans hz hb.size
      replace hA := TB.ext hA hb
      clear hb
      iterate 4 (refine wpGs_read (o := ⟨_, _, _, _, _, _⟩) (v := ?_) rfl (by rfl) ?_ ?_; rotate_left; (intro w' hw'; go_simp; with_reducible rfl); simp only [Act.put, List.setIfInBounds_toArray, List.set_cons_zero, List.set_cons_succ])
      have c0 := hA.c0
      have c1 := hA.c1
      have f0 := hA.fz 0
      have f1 := hA.fz 1
      have hfin := Lib.hid (LR.put (n := 1) hA hG htr hwv hc)
      have HT : Hid (Turn (fun i => u0.heap.size ≤ i) uL ((uL.setCell ⟨u0.heap.size, 0, none⟩ (.pointer pU)).setCell ⟨u0.heap.size, 1, none⟩ (.int .i64 (1 : Nat)))) := (turn_put _ _ _ _).mono (fun i hi _ => by subst hi; exact hG0)
      refine stepS_call (o := ⟨_, _, _, _, _, _⟩) rfl (by rfl) (fun K hK => ?_)
      go_simp
      refine hK _ _ HT.out ?_
      clear hK K c0 c1 f0 f1
      iterate 2 (refine wpGs_read (o := ⟨_, _, _, _, _, _⟩) (v := ?_) rfl (by rfl) ?_ ?_; rotate_left; (intro w' hw'; go_simp; with_reducible rfl); simp only [Act.put, List.setIfInBounds_toArray, List.set_cons_zero, List.set_cons_succ])
      refine wpGs_done ?_
      go_wp2
      go_meet
      exact ⟨_, _, _, rfl, rfl, rfl, hfin⟩
  case rest =>
    obtain ⟨gU, pU, vU, rfl, rfl, rfl, hU⟩ := hcut
    have hb := hU.out.b
    have HU := hU
    clear hU
    replace HB := Lib.hid (HB.out.trans (Below.mono hb HB.out.size))
    replace HG := Lib.hid (HG.out.below hb)
    replace HW := Lib.hid (HW.out.below hb)
    replace HA := Lib.hid (HA.out.below hb)
    replace HTR := Lib.hid (HTR.out.ext hb)
    replace K1 := Lib.hid (TB.ext K1.out hb)
    clear hb
    clear HL
    have HL : Hid (∀ w', Below wc.heap.size wc w' → LayC p 1 (belowR 2) (.iface 110 (.int .i64 8)) 0 [] 0 [] w') := fun w' hb => lay_noC (fun _ => []) _ p 1 [t] H w' (HTR.out.ext hb) (HX.out.mi _) (by rw [HX.out.nd]; omega) HX.out.c2
    go_upto_region 3 with fail
    go_cut [6, 7, 8] (fun su sw se wx => ∃ (gU : Nat) (pU : Option Addr) (vU : Value), su = .pointer (some ⟨gU, 0, none⟩) ∧ sw = vU ∧ se = (.iface 110 (.int .i64 8)) ∧ Hid (LR wc wx gU pU 0 vU [] 0 []))
    case first =>
      obtain ⟨u0, hu0, hc⟩ : ∃ u, wc.drew = u ∧ Below wc.heap.size wc u := ⟨_, rfl, (Below.refl _ _).drew⟩
      have hT0 := TB.ext K1.out hc
      have hlt := hT0.lt
      have HU0 := Lib.hid hu0
      have hz : u0.heap.size ≤ u0.heap.size := Nat.le_refl _
      have q0 := fun w' (t : Turn (fun i => u0.heap.size ≤ i) u0 w') => (hT0.turn t (by omega)).c0
      have q1 := fun w' (t : Turn (fun i => u0.heap.size ≤ i) u0 w') => (hT0.turn t (by omega)).c1
      clear hu0
      refine wp_region_gs (F := fun i => u0.heap.size ≤ i) (.rd 0 (.two 1 (.two 2 (.rd 3 (.rd 4 (.rd 5 (.rd 6 (.call 7 (.call 8 (.rd 9 (.rd 10 .done)))))))) 7 (.call 2 (.rd 3 (.rd 4 (.rd 5 (.rd 6 (.call 8 (.rd 9 (.rd 10 .done))))))))) 7 (.call 1 (.call 2 (.rd 3 (.rd 4 (.rd 5 (.rd 6 (.call 8 (.rd 9 (.rd 10 .done))))))))))) (by kernel_rfl) (by kernel_rfl) (by kernel_rfl) (by kernel_rfl) (fun _ _ _ _ _ h => h) ?_
      rw [HU0.out]
      (refine wpGs_read (o := ⟨_, _, _, _, _, _⟩) (v := ?_) rfl (by rfl) ?_ ?_; rotate_left; (intro w' hw'; go_simp; with_reducible rfl); simp only [Act.put, List.setIfInBounds_toArray, List.set_cons_zero, List.set_cons_succ])
      clear q0 q1 hT0 hlt HU0
      refine ⟨?_, ?_⟩
      · refine stepS_call (o := ⟨_, _, _, _, _, _⟩) rfl (by rfl) (fun K hK => ?_)
        go_simp
        refine (below_any 2 _ (by omega)).mono ?_
        rintro e uB ⟨rfl, hb⟩
        refine hK _ _ (Turn.ofBelow hb) ?_
        clear hK K
        replace hc := hc.trans (hb.mono hc.size)
        replace hz := Nat.le_trans hz hb.size
        clear hb
        refine ⟨?_, ?_⟩
        · refine stepS_call (o := ⟨_, _, _, _, _, _⟩) rfl (by rfl) (fun K hK => ?_)
          go_simp
          refine (HL.out _ hc).mono ?_
          rintro e uL ⟨pU, vU, rfl, htr, hwv, hb⟩
          refine hK _ _ (Turn.ofBelow hb) ?_
          clear hK K
          replace hc := hc.trans (hb.mono hc.size)
          replace hz := Nat.le_trans hz hb.size
          clear hb
          iterate 4 (refine wpGs_read (o := ⟨_, _, _, _, _, _⟩) (v := ?_) rfl (by rfl) ?_ ?_; rotate_left; (intro w' hw'; go_simp; with_reducible rfl); simp only [Act.put, List.setIfInBounds_toArray, List.set_cons_zero, List.set_cons_succ])
          obtain ⟨uA, hA0, hA, hb⟩ := alloc_own uL TT #[.pointer none, .int .i64 0]
          have HA0 := Lib.hid hA0
          have hG : wc.heap.size ≤ uL.heap.size := hc.size
          have hG0 : u0.heap.size ≤ uL.heap.size := hz
          replace hA : TB uA uL.heap.size none 0 := hA
          clear hA0
          refine stepS_call (o := ⟨_, _, _, _, _, _⟩) rfl (by rfl) (fun K hK => ?_)
          go_simp
          rw [HA0.out]
          refine hK _ _ (Turn.ofBelow hb) ?_
          clear hK K
          clear HA0
          try simp only [Act.put, List.setIfInBounds_toArray, List.set_cons_zero, List.set_cons_succ]
          replace hc := hc.trans (hb.mono hc.size)
          replace hz := Nat.le_trans hz hb.size
          replace htr := htr.ext hb
          replace hwv := hwv.ext hb
          clear hb
          have c0 := hA.c0
          have c1 := hA.c1
          have f0 := hA.fz 0
          have f1 := hA.fz 1
          have hfin := Lib.hid (LR.put (n := 0) hA hG htr hwv hc)
          have HT : Hid (Turn (fun i => u0.heap.size ≤ i) uA ((uA.setCell ⟨uL.heap.size, 0, none⟩ (.pointer pU)).setCell ⟨uL.heap.size, 1, none⟩ (.int .i64 (0 : Nat)))) := (turn_put _ _ _ _).mono (fun i hi _ => by subst hi; exact hG0)
          refine stepS_call (o := ⟨_, _, _, _, _, _⟩) rfl (by rfl) (fun K hK => ?_)
          go_simp
          refine hK _ _ HT.out ?_
          clear hK K c0 c1 f0 f1
          iterate 2 (refine wpGs_read (o := ⟨_, _, _, _, _, _⟩) (v := ?_) rfl (by rfl) ?_ ?_; rotate_left; (intro w' hw'; go_simp; with_reducible rfl); simp only [Act.put, List.setIfInBounds_toArray, List.set_cons_zero, List.set_cons_succ])
          refine wpGs_done ?_
          go_wp2
          go_meet
          exact ⟨_, _, _, rfl, rfl, rfl, hfin⟩
        · obtain ⟨uA, hA0, hA, hb⟩ := alloc_own uB TT #[.pointer none, .int .i64 0]
          have HA0 := Lib.hid hA0
          have hG : wc.heap.size ≤ uB.heap.size := hc.size
          have hG0 : u0.heap.size ≤ uB.heap.size := hz
          replace hA : TB uA uB.heap.size none 0 := hA
          clear hA0
          refine stepS_call (o := ⟨_, _, _, _, _, _⟩) rfl (by rfl) (fun K hK => ?_)
          go_simp
          rw [HA0.out]
          refine hK _ _ (Turn.ofBelow hb) ?_
          clear hK K
          clear HA0
          try simp only [Act.put, List.setIfInBounds_toArray, List.set_cons_zero, List.set_cons_succ]
          replace hc := hc.trans (hb.mono hc.size)
          replace hz := Nat.le_trans hz hb.size
          clear hb
          refine stepS_call (o := ⟨_, _, _, _, _, _⟩) rfl (by rfl) (fun K hK => ?_)
          go_simp
          refine (HL.out _ hc).mono ?_
          rintro e uL ⟨pU, vU, rfl, htr, hwv, hb⟩
          refine hK _ _ (Turn.ofBelow hb) ?_
          clear hK K
          replace hc := hc.trans (hb.mono hc.size)
          replace hz := Nat.le_trans hz hb.size
          replace hA := TB.ext hA hb
          clear hb
          iterate 4 (refine wpGs_read (o := ⟨_, _, _, _, _, _⟩) (v := ?_) rfl (by rfl) ?_ ?_; rotate_left; (intro w' hw'; go_simp; with_reducible rfl); simp only [Act.put, List.setIfInBounds_toArray, List.set_cons_zero, List.set_cons_succ])
          have c0 := hA.c0
          have c1 := hA.c1
          have f0 := hA.fz 0
          have f1 := hA.fz 1
          have hfin := Lib.hid (LR.put (n := 0) hA hG htr hwv hc)
          have HT : Hid (Turn (fun i => u0.heap.size ≤ i) uL ((uL.setCell ⟨uB.heap.size, 0, none⟩ (.pointer pU)).setCell ⟨uB.heap.size, 1, none⟩ (.int .i64 (0 : Nat)))) := (turn_put _ _ _ _).mono (fun i hi _ => by subst hi; exact hG0)
          refine stepS_call (o := ⟨_, _, _, _, _, _⟩) rfl (by rfl) (fun K hK => ?_)
          go_simp
          refine hK _ _ HT.out ?_
          clear hK K c0 c1 f0 f1
          iterate 2 (refine wpGs_read (o := ⟨_, _, _, _, _, _⟩) (v := ?_) rfl (by rfl) ?_ ?_; rotate_left; (intro w' hw'; go_simp; with_reducible rfl); simp only [Act.put, List.setIfInBounds_toArray, List.set_cons_zero, List.set_cons_succ])
          refine wpGs_done ?_
          go_wp2
          go_meet
          exact ⟨_, _, _, rfl, rfl, rfl, hfin⟩
      · obtain ⟨uA, hA0, hA, hb⟩ := alloc_own u0 TT #[.pointer none, .int .i64 0]
        have HA0 := Lib.hid hA0
        have hG : wc.heap.size ≤ u0.heap.size := hc.size
        have hG0 : u0.heap.size ≤ u0.heap.size := hz
        replace hA : TB uA u0.heap.size none 0 := hA
        clear hA0
        refine stepS_call (o := ⟨_, _, _, _, _, _⟩) rfl (by rfl) (fun K hK => ?_)
        go_simp
        rw [HA0.out]
        refine hK _ _ (Turn.ofBelow hb) ?_
        clear hK K
        clear HA0
        try simp only [Act.put, List.setIfInBounds_toArray, List.set_cons_zero, List.set_cons_succ]
        replace hc := hc.trans (hb.mono hc.size)
        replace hz := Nat.le_trans hz hb.size
        clear hb
        refine stepS_call (o := ⟨_, _, _, _, _, _⟩) rfl (by rfl) (fun K hK => ?_)
        go_simp
        refine (below_any 2 _ (by omega)).mono ?_
        rintro e uB ⟨rfl, hb⟩
        refine hK _ _ (Turn.ofBelow hb) ?_
        clear hK K
        replace hc := hc.trans (hb.mono hc.size)
        replace hz := Nat.le_trans hz hb.size
        replace hA := TB.ext hA hb
        clear hb
        refine stepS_call (o := ⟨_, _, _, _, _, _⟩) rfl (by rfl) (fun K hK => ?_)
        go_simp
        refine (HL.out _ hc).mono ?_
        rintro e uL ⟨pU, vU, rfl, htr, hwv, hb⟩
        refine hK _ _ (Turn.ofBelow hb) ?_
        clear hK K
        replace hc := hc.trans (hb.mono hc.size)
        replace hz := Nat.le_trans hz hb.size
        replace hA := TB.ext hA hb
        clear hb
        iterate 4 (refine wpGs_read (o := ⟨_, _, _, _, _, _⟩) (v := ?_) rfl (by rfl) ?_ ?_; rotate_left; (intro w' hw'; go_simp; with_reducible rfl); simp only [Act.put, List.setIfInBounds_toArray, List.set_cons_zero, List.set_cons_succ])
        have c0 := hA.c0
        have c1 := hA.c1
        have f0 := hA.fz 0
        have f1 := hA.fz 1
        have hfin := Lib.hid (LR.put (n := 0) hA hG htr hwv hc)
        have HT : Hid (Turn (fun i => u0.heap.size ≤ i) uL ((uL.setCell ⟨u0.heap.size, 0, none⟩ (.pointer pU)).setCell ⟨u0.heap.size, 1, none⟩ (.int .i64 (0 : Nat)))) := (turn_put _ _ _ _).mono (fun i hi _ => by subst hi; exact hG0)
        refine stepS_call (o := ⟨_, _, _, _, _, _⟩) rfl (by rfl) (fun K hK => ?_)
        go_simp
        refine hK _ _ HT.out ?_
        clear hK K c0 c1 f0 f1
        iterate 2 (refine wpGs_read (o := ⟨_, _, _, _, _, _⟩) (v := ?_) rfl (by rfl) ?_ ?_; rotate_left; (intro w' hw'; go_simp; with_reducible rfl); simp only [Act.put, List.setIfInBounds_toArray, List.set_cons_zero, List.set_cons_succ])
        refine wpGs_done ?_
        go_wp2
        go_meet
        exact ⟨_, _, _, rfl, rfl, rfl, hfin⟩
    case rest =>
      obtain ⟨gU2, pU2, vU2, rfl, rfl, rfl, hU⟩ := hcut
      have hb := hU.out.b
      have HU2 := hU
      clear hU
      replace HB := Lib.hid (HB.out.trans (Below.mono hb HB.out.size))
      replace HG := Lib.hid (HG.out.below hb)
      replace HW := Lib.hid (HW.out.below hb)
      replace HA := Lib.hid (HA.out.below hb)
      replace HTR := Lib.hid (HTR.out.ext hb)
      replace K1 := Lib.hid (TB.ext K1.out hb)
      replace HU := Lib.hid (HU.out.ext hb)
      clear hb
      clear HL
      obtain ⟨va, vc, rfl, hva, _⟩ := HU.out.wv.slice
      obtain ⟨vg, vo, rfl⟩ := hva (by simp)
      clear hva
      rw [List.length_singleton] at *
      have CN1 := Lib.hid (fun w ht => need_mix (fun _ => []) p 1 [t] H 1 w ht (HX.out.mi _) HX.out.nd (by omega))
      have CN2 := Lib.hid (fun w ht => need_mix _ pU 1 [u] H 0 w ht HLi.out.2.2.2.mix HLi.out.2.2.2.need (by omega))
      have CR := Lib.hid (fun w ht => root_tree pU 1 [u] H w ht)
      have CU := Lib.hid (fun w ht => used_mix _ pU 1 [u] H w ht HLi.out.2.2.2.mix)
      have CH := Lib.hid (fun w => bhas_any (addR (fun _ => false) (uL [u])) (q : Int) w)
      have e1 : inB (addR (fun _ => false) (uL [u])) (q : Int) = true := inB_used HLi.out.2.1 HLi.out.2.2.1.2
      rw [e1] at CH
      have CE := Lib.hid (fun w hg => num_any (.iface 110 (.int .i64 8)) 8 w (errC_is 8) hg)
      have CZ := Lib.hid (fun w => root_tree none 0 [] 0 w (TreeT.none w))
      rw [show (([u] : List Tr).headD (.leaf 0 [])).pg = q from HLi.out.1] at CR
      rw [show ((([] : List Tr).headD (.leaf 0 [])).pg : Nat) = 0 from rfl] at CZ
      clear e1
      go_wp2_with fail
      refine wp_region_gr [(0, true), (1, true), (2, true), (3, true), (4, true), (5, true), (6, true), (7, true), (8, true), (9, true), (10, true), (11, true), (12, true), (13, false), (14, true), (15, true), (16, true), (17, true), (18, false), (19, true), (20, true), (21, true), (22, true), (24, true), (25, true), (26, true), (27, true), (23, false), (28, true), (29, true), (30, true), (31, true), (33, true), (34, true), (35, true), (36, true), (32, false), (37, false), (38, true), (39, true), (40, true), (41, false), (42, true), (43, true), (44, true), (45, true), (46, false), (47, true), (48, true), (49, true)] (by kernel_rfl) (by kernel_rfl) (by kernel_rfl) (by kernel_rfl) (fun _ _ _ _ _ h => h) ?_
      obtain ⟨ud, hud, hb⟩ : ∃ u, wc.drew = u ∧ Below wc.heap.size wc u := ⟨_, rfl, (Below.refl _ _).drew⟩
      rw [hud]
      replace HB := Lib.hid (HB.out.trans (Below.mono hb HB.out.size))
      replace HG := Lib.hid (HG.out.below hb)
      replace HW := Lib.hid (HW.out.below hb)
      replace HA := Lib.hid (HA.out.below hb)
      replace HTR := Lib.hid (HTR.out.ext hb)
      replace K1 := Lib.hid (TB.ext K1.out hb)
      replace HU := Lib.hid (HU.out.ext hb)
      replace HU2 := Lib.hid (HU2.out.ext hb)
      clear hb hud
      have qa0 := fun w' (h : Ext ud w') => (TB.ext (K1.out) h).c0
      have qa1 := fun w' (h : Ext ud w') => (TB.ext (K1.out) h).c1
      iterate 13 (refine wpGr_read (o := ⟨_, _, _, _, _, _⟩) (v := ?_) rfl (by rfl) ?_ ?_; rotate_left; (intro w' hw'; go_simp; with_reducible rfl); simp only [Act.put, List.setIfInBounds_toArray, List.set_cons_zero, List.set_cons_succ])
      clear qa0 qa1
      refine wpGr_call (o := ⟨_, _, _, _, _, _⟩) rfl (by rfl) (fun K hK => ?_)
      go_simp
      refine (CN1.out ud HTR.out).mono ?_
      rintro e v3 ⟨rfl, hb⟩
      refine hK _ _ hb ?_
      clear hK K
      replace HB := Lib.hid (HB.out.trans (Below.mono hb HB.out.size))
      replace HG := Lib.hid (HG.out.below hb)
      replace HW := Lib.hid (HW.out.below hb)
      replace HA := Lib.hid (HA.out.below hb)
      replace HTR := Lib.hid (HTR.out.ext hb)
      replace K1 := Lib.hid (TB.ext K1.out hb)
      replace HU := Lib.hid (HU.out.ext hb)
      replace HU2 := Lib.hid (HU2.out.ext hb)
      clear hb
      try simp only [Act.put, List.setIfInBounds_toArray, List.set_cons_zero, List.set_cons_succ]
      have qa0 := fun w' (h : Ext v3 w') => (TB.ext (HU.out.t) h).c0
      have qa1 := fun w' (h : Ext v3 w') => (TB.ext (HU.out.t) h).c1
      iterate 4 (refine wpGr_read (o := ⟨_, _, _, _, _, _⟩) (v := ?_) rfl (by rfl) ?_ ?_; rotate_left; (intro w' hw'; go_simp; with_reducible rfl); simp only [Act.put, List.setIfInBounds_toArray, List.set_cons_zero, List.set_cons_succ])
      clear qa0 qa1
      refine wpGr_call (o := ⟨_, _, _, _, _, _⟩) rfl (by rfl) (fun K hK => ?_)
      go_simp
      refine (CN2.out v3 HU.out.tr).mono ?_
      rintro e v4 ⟨rfl, hb⟩
      refine hK _ _ hb ?_
      clear hK K
      replace HB := Lib.hid (HB.out.trans (Below.mono hb HB.out.size))
      replace HG := Lib.hid (HG.out.below hb)
      replace HW := Lib.hid (HW.out.below hb)
      replace HA := Lib.hid (HA.out.below hb)
      replace HTR := Lib.hid (HTR.out.ext hb)
      replace K1 := Lib.hid (TB.ext K1.out hb)
      replace HU := Lib.hid (HU.out.ext hb)
      replace HU2 := Lib.hid (HU2.out.ext hb)
      clear hb
      try simp only [Act.put, List.setIfInBounds_toArray, List.set_cons_zero, List.set_cons_succ]
      have qa0 := fun w' (h : Ext v4 w') => (TB.ext (HU.out.t) h).c0
      have qa1 := fun w' (h : Ext v4 w') => (TB.ext (HU.out.t) h).c1
      have qc := fun w' (h : Ext v4 w') => (WV.cell (i := 0) (HU.out.wv.ext h) (by simp) : w'.cell? ⟨vg, vo + 0 * 2, none⟩ = _)
      simp only [Nat.zero_mul, Nat.add_zero, List.getD_cons_zero] at qc
      iterate 8 (refine wpGr_read (o := ⟨_, _, _, _, _, _⟩) (v := ?_) rfl (by rfl) ?_ ?_; rotate_left; (intro w' hw'; go_simp; with_reducible rfl); simp only [Act.put, List.setIfInBounds_toArray, List.set_cons_zero, List.set_cons_succ])
      clear qa0 qa1 qc
      refine wpGr_call (o := ⟨_, _, _, _, _, _⟩) rfl (by rfl) (fun K hK => ?_)
      go_simp
      refine (CR.out v4 HU.out.tr).mono ?_
      rintro e v5 ⟨rfl, hb⟩
      refine hK _ _ hb ?_
      clear hK K
      replace HB := Lib.hid (HB.out.trans (Below.mono hb HB.out.size))
      replace HG := Lib.hid (HG.out.below hb)
      replace HW := Lib.hid (HW.out.below hb)
      replace HA := Lib.hid (HA.out.below hb)
      replace HTR := Lib.hid (HTR.out.ext hb)
      replace K1 := Lib.hid (TB.ext K1.out hb)
      replace HU := Lib.hid (HU.out.ext hb)
      replace HU2 := Lib.hid (HU2.out.ext hb)
      clear hb
      try simp only [Act.put, List.setIfInBounds_toArray, List.set_cons_zero, List.set_cons_succ]
      have qa0 := fun w' (h : Ext v5 w') => (TB.ext (HU.out.t) h).c0
      have qa1 := fun w' (h : Ext v5 w') => (TB.ext (HU.out.t) h).c1
      have qc := fun w' (h : Ext v5 w') => (WV.cell (i := 0) (HU.out.wv.ext h) (by simp) : w'.cell? ⟨vg, vo + 0 * 2, none⟩ = _)
      simp only [Nat.zero_mul, Nat.add_zero, List.getD_cons_zero] at qc
      iterate 8 (refine wpGr_read (o := ⟨_, _, _, _, _, _⟩) (v := ?_) rfl (by rfl) ?_ ?_; rotate_left; (intro w' hw'; go_simp; with_reducible rfl); simp only [Act.put, List.setIfInBounds_toArray, List.set_cons_zero, List.set_cons_succ])
      clear qa0 qa1 qc
      refine wpGr_call (o := ⟨_, _, _, _, _, _⟩) rfl (by rfl) (fun K hK => ?_)
      go_simp
      refine (CU.out v5 HU.out.tr).mono ?_
      rintro e v6 ⟨rfl, hb⟩
      refine hK _ _ hb ?_
      clear hK K
      replace HB := Lib.hid (HB.out.trans (Below.mono hb HB.out.size))
      replace HG := Lib.hid (HG.out.below hb)
      replace HW := Lib.hid (HW.out.below hb)
      replace HA := Lib.hid (HA.out.below hb)
      replace HTR := Lib.hid (HTR.out.ext hb)
      replace K1 := Lib.hid (TB.ext K1.out hb)
      replace HU := Lib.hid (HU.out.ext hb)
      replace HU2 := Lib.hid (HU2.out.ext hb)
      clear hb
      try simp only [Act.put, List.setIfInBounds_toArray, List.set_cons_zero, List.set_cons_succ]
      refine wpGr_call (o := ⟨_, _, _, _, _, _⟩) rfl (by rfl) (fun K hK => ?_)
      go_simp
      refine (CH.out v6).mono ?_
      rintro e v7 ⟨rfl, hb⟩
      refine hK _ _ hb ?_
      clear hK K
      replace HB := Lib.hid (HB.out.trans (Below.mono hb HB.out.size))
      replace HG := Lib.hid (HG.out.below hb)
      replace HW := Lib.hid (HW.out.below hb)
      replace HA := Lib.hid (HA.out.below hb)
      replace HTR := Lib.hid (HTR.out.ext hb)
      replace K1 := Lib.hid (TB.ext K1.out hb)
      replace HU := Lib.hid (HU.out.ext hb)
      replace HU2 := Lib.hid (HU2.out.ext hb)
      clear hb
      try simp only [Act.put, List.setIfInBounds_toArray, List.set_cons_zero, List.set_cons_succ]
      iterate 3 (refine wpGr_read (o := ⟨_, _, _, _, _, _⟩) (v := ?_) rfl (by rfl) ?_ ?_; rotate_left; (intro w' hw'; go_simp; with_reducible rfl); simp only [Act.put, List.setIfInBounds_toArray, List.set_cons_zero, List.set_cons_succ])
      refine wpGr_call (o := ⟨_, _, _, _, _, _⟩) rfl (by rfl) (fun K hK => ?_)
      go_simp
      refine (CE.out v7 HG.out).mono ?_
      rintro e v8 ⟨rfl, hb⟩
      refine hK _ _ hb ?_
      clear hK K
      replace HB := Lib.hid (HB.out.trans (Below.mono hb HB.out.size))
      replace HG := Lib.hid (HG.out.below hb)
      replace HW := Lib.hid (HW.out.below hb)
      replace HA := Lib.hid (HA.out.below hb)
      replace HTR := Lib.hid (HTR.out.ext hb)
      replace K1 := Lib.hid (TB.ext K1.out hb)
      replace HU := Lib.hid (HU.out.ext hb)
      replace HU2 := Lib.hid (HU2.out.ext hb)
      clear hb
      try simp only [Act.put, List.setIfInBounds_toArray, List.set_cons_zero, List.set_cons_succ]
      iterate 4 (refine wpGr_read (o := ⟨_, _, _, _, _, _⟩) (v := ?_) rfl (by rfl) ?_ ?_; rotate_left; (intro w' hw'; go_simp; with_reducible rfl); simp only [Act.put, List.setIfInBounds_toArray, List.set_cons_zero, List.set_cons_succ])
      refine wpGr_call (o := ⟨_, _, _, _, _, _⟩) rfl (by rfl) (fun K hK => ?_)
      go_simp
      refine (CZ.out v8).mono ?_
      rintro e v9 ⟨rfl, hb⟩
      refine hK _ _ hb ?_
      clear hK K
      replace HB := Lib.hid (HB.out.trans (Below.mono hb HB.out.size))
      replace HG := Lib.hid (HG.out.below hb)
      replace HW := Lib.hid (HW.out.below hb)
      replace HA := Lib.hid (HA.out.below hb)
      replace HTR := Lib.hid (HTR.out.ext hb)
      replace K1 := Lib.hid (TB.ext K1.out hb)
      replace HU := Lib.hid (HU.out.ext hb)
      replace HU2 := Lib.hid (HU2.out.ext hb)
      clear hb
      try simp only [Act.put, List.setIfInBounds_toArray, List.set_cons_zero, List.set_cons_succ]
      iterate 3 (refine wpGr_read (o := ⟨_, _, _, _, _, _⟩) (v := ?_) rfl (by rfl) ?_ ?_; rotate_left; (intro w' hw'; go_simp; with_reducible rfl); simp only [Act.put, List.setIfInBounds_toArray, List.set_cons_zero, List.set_cons_succ])
      refine wpGr_done ?_
      go_wp2
      go_ret
      exact ⟨rfl, HB.out⟩
end Go.Proofs.YtdgladhfibfdlaaGreatDoor
