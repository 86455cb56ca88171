/-
  What the law PlanFew stands on.
-/
import Derived.Test.YtdgladhfibfdlaaGreatDoorQPlanFew45
import Derived.Test.YtdgladhfibfdlaaGreatDoorQPlanFew10
namespace Go.Proofs.YtdgladhfibfdlaaGreatDoor
open Go Go.RowKit
theorem ES.ext2 {w w' : World} {a : Option Addr} {es : List En} (h : ES entE w a es) (hb : Below w.heap.size w w') : ES entE w' a es := h.below hb (Nat.le_refl _)
theorem put_fine (p : Option Addr) (us : List Tr) (H : Nat) (key value : ByteArray) (n : Nat) (w : World) (ht : TreeT w p us H) (hn : (esL us).length = n) (hl : n < 4096) (hk : okK key = true) (hv : value.size ≤ 2048) :
    Calls Tryz.prog 29 #[.agg #[.pointer p, .int .i64 n], .string key, .string value] w fun e w' => ∃ p' ts' H', e = .returned (.tuple #[.agg #[.pointer p', .int .i64 ((esL ts').length : Nat)], .nilIface]) ∧ TreeT w' p' ts' H' ∧ PutFr us ts' H' key value ∧ Below w.heap.size w w' := by
  subst hn
  obtain ⟨h1, _⟩ := tp_ok (es := esL us) hk hv hl
  refine (put_allT p us H key value w ht (by omega)).mono ?_
  rintro e w' ⟨p', ts', H', rfl, h2, h3, hb⟩
  rw [h1]
  rcases h3 with ⟨h3, _⟩ | ⟨_, h3⟩
  · exact absurd h1 h3
  · exact ⟨p', ts', H', rfl, h2, h3, hb⟩
theorem few_need {P : Nat → List Nat} {us ts' : List Tr} {H' : Nat} {key value : ByteArray} (h : LieI P us) (hf : PutFr us ts' H' key value) (hv : value.size ≤ 64) : needL ts' ≤ 2 * H' := by
  rcases hf with ⟨h1, h2⟩ | ⟨rfl, _⟩
  · have h3 := needB_le ts'
    have h4 := h2.nw
    have h5 : cNs (esL ts') = 0 := cNs_none _ (fun e he hv2 => by
      rw [h1] at he
      rcases mem_rep he with he | he
      · rcases h.ce e he with h6 | h6
        · omega
        · intro h7
          have h8 := h6.2.1
          rw [h7] at h8
          have h9 : 0 < nP e.v.size := by unfold nP; omega
          simp at h8; omega
      · rw [List.mem_singleton.1 he] at hv2
        have : value.size ≤ 64 := hv
        simp only at hv2; omega)
    rw [h.nw] at h4
    omega
  · rw [h.need]; omega
set_option maxRecDepth 100000 in
set_option maxHeartbeats 4000000 in
theorem few_any (n0 m0 : Nat) (key value : ByteArray) (w : World) (hn : n0 < 65536) (hm0 : m0 < 65536) (hg : Hg w) (hwo : WorthIn w) (hT : TabIn w) :
    Calls Tryz.prog 5 #[.agg #[.int .u16 n0, .int .u16 m0], .string key, .string value] w fun e w' => e = .returned (.bool true) ∧ Below w.heap.size w w' := by
  obtain ⟨W, hW, _, hb⟩ := alloc_own w 23 #[.int .u16 n0, .int .u16 m0]
  obtain ⟨N, hN⟩ : ∃ N, N = n0 % 100 := ⟨_, rfl⟩
  have eN : (n0 : Int).tmod 100 = (N : Int) := by rw [Int.tmod_eq_emod_of_nonneg (by omega)]; omega
  have hN9 : N ≤ 99 := by omega
  have HWw := Lib.hid hW
  have HB := Lib.hid hb
  have HG := Lib.hid (hg.below hb)
  have HW := Lib.hid (hwo.below hb)
  have HA := Lib.hid (hT.below hb)
  have Hgr := Lib.hid (grown_any N m0 W (by omega) (by omega) HG.out)
  clear hW hb hg hN hwo hT
  go_enter Tryz.func5, Tryz.ntmps5
  go_wp2_with fail
  rw [HWw.out]
  refine (Hgr.out).mono ?_
  rintro e v1 ⟨p, H, es, l, rfl, hn, hl, hln, hb⟩
  replace HB := Lib.hid (HB.out.trans (Below.mono hb HB.out.size))
  replace HG := Lib.hid (HG.out.below hb)
  replace HW := Lib.hid (HW.out.below hb)
  replace HA := Lib.hid (HA.out.below hb)
  clear hb
  obtain ⟨ts, htr, hes, hu, hm, hnd, _⟩ := hn.lay
  obtain ⟨L, hL⟩ : ∃ L, es.length = L := ⟨_, rfl⟩
  rw [hL] at hnd hln ⊢
  have HX := Lib.hid (And.intro hes (And.intro hu (And.intro hm hnd)))
  have HLn := Lib.hid hL
  have HTR := Lib.hid htr
  have HEV := Lib.hid hl
  clear Hgr hn hl htr hes hu hm hnd hL
  obtain ⟨v2, hv2, hT, hb⟩ := alloc_own v1 TT #[.pointer p, .int .i64 L]
  replace HB := Lib.hid (HB.out.trans (Below.mono hb HB.out.size))
  replace HG := Lib.hid (HG.out.below hb)
  replace HW := Lib.hid (HW.out.below hb)
  replace HA := Lib.hid (HA.out.below hb)
  replace HTR := Lib.hid (HTR.out.ext hb)
  replace HEV := Lib.hid (HEV.out.ext hb)
  have K7 : Hid (TB v2 v1.heap.size p L) := hT
  have Hv2 := Lib.hid hv2
  clear hv2 hT hb
  by_cases h1 : key.size < 1
  · have i1 : (key.size : Int) < 1 := by omega
    go_wp2_with fail
    rw [Hv2.out]
    refine (psure_any v2 HG.out HW.out HA.out).mono ?_
    rintro e v3 ⟨rfl, hb⟩
    replace HB := Lib.hid (HB.out.trans (Below.mono hb HB.out.size))
    replace HG := Lib.hid (HG.out.below hb)
    replace HW := Lib.hid (HW.out.below hb)
    replace HA := Lib.hid (HA.out.below hb)
    replace HTR := Lib.hid (HTR.out.ext hb)
    replace HEV := Lib.hid (HEV.out.ext hb)
    replace K7 := Lib.hid (TB.ext K7.out hb)
    clear hb
    go_wp2
    go_ret
    exact ⟨rfl, HB.out⟩
  have i1 : ¬ (key.size : Int) < 1 := by omega
  by_cases h1 : 40 < key.size
  · have i1 : (40 : Int) < (key.size : Int) := by omega
    go_wp2_with fail
    rw [Hv2.out]
    refine (psure_any v2 HG.out HW.out HA.out).mono ?_
    rintro e v3 ⟨rfl, hb⟩
    replace HB := Lib.hid (HB.out.trans (Below.mono hb HB.out.size))
    replace HG := Lib.hid (HG.out.below hb)
    replace HW := Lib.hid (HW.out.below hb)
    replace HA := Lib.hid (HA.out.below hb)
    replace HTR := Lib.hid (HTR.out.ext hb)
    replace HEV := Lib.hid (HEV.out.ext hb)
    replace K7 := Lib.hid (TB.ext K7.out hb)
    clear hb
    go_wp2
    go_ret
    exact ⟨rfl, HB.out⟩
  have i2 : ¬ (40 : Int) < (key.size : Int) := by omega
  by_cases h1 : 64 < value.size
  · have i1 : (64 : Int) < (value.size : Int) := by omega
    go_wp2_with fail
    rw [Hv2.out]
    refine (psure_any v2 HG.out HW.out HA.out).mono ?_
    rintro e v3 ⟨rfl, hb⟩
    replace HB := Lib.hid (HB.out.trans (Below.mono hb HB.out.size))
    replace HG := Lib.hid (HG.out.below hb)
    replace HW := Lib.hid (HW.out.below hb)
    replace HA := Lib.hid (HA.out.below hb)
    replace HTR := Lib.hid (HTR.out.ext hb)
    replace HEV := Lib.hid (HEV.out.ext hb)
    replace K7 := Lib.hid (TB.ext K7.out hb)
    clear hb
    go_wp2
    go_ret
    exact ⟨rfl, HB.out⟩
  have i3 : ¬ (64 : Int) < (value.size : Int) := by omega
  have hkey : okK key = true := by unfold okK; simp; omega
  have hc : needL ts ≤ cnt (freeP (belowR 1024) ts) 1024 := by
    have h1 := cnt_free (ts := ts) 1024 (by omega) (by omega) HX.out.2.1
    have h2 := HX.out.2.2.2
    exact Nat.le_trans (by omega) (Nat.le_of_eq h1.symm)
  have hlie := (HX.out.2.2.1 _).laid hc (PL := List.replicate 1024 []) List.length_replicate
  have hul := lay_uLen hc
  have hbare := congrArg List.length (layL_bare ts (takP (belowR 1024) ts))
  rw [HX.out.2.1] at hul
  rw [bare_len, bare_len, HX.out.1, HLn.out] at hbare
  rw [List.length_nil, Nat.zero_add] at hul
  obtain ⟨us, hus⟩ : ∃ x, layL ts (takP (belowR 1024) ts) = x := ⟨_, rfl⟩
  obtain ⟨ws, hws⟩ : ∃ x, wrL ts (takP (belowR 1024) ts) = x := ⟨_, rfl⟩
  rw [hus, hws] at hlie
  rw [hus] at hul hbare
  have HL : Hid (∀ w', Below v2.heap.size v2 w' → LayC p L (belowR 1024) .nilIface L us H ws w') := fun w' hb => by
    rw [← hus, ← hws]
    exact lay_yesC (fun _ => []) _ p ts H L w' (HTR.out.ext hb) (HX.out.2.2.1 _) (by rw [HX.out.1]; exact HLn.out) (by omega) hc (HW.out.below hb) (HA.out.below hb)
  have HLi := Lib.hid hlie
  have HUl := Lib.hid (And.intro hul hbare)
  have HK := Lib.hid (And.intro hkey (And.intro h1 hln))
  rename_i hk1 hk2
  have HV := Lib.hid h1
  clear hlie hul hbare hus hws hkey hc h1 hk1 hk2 hln
  go_upto_region 4 with fail
  rw [Hv2.out]
  go_cut [10, 11, 12] (fun su sw se wx => ∃ (gU : Nat) (pU : Option Addr) (vU : Value), su = .pointer (some ⟨gU, 0, none⟩) ∧ sw = vU ∧ se = .nilIface ∧ Hid (LR v2 wx gU pU L vU us H ws))
  case first =>
    obtain ⟨u0, hu0, hc⟩ : ∃ u, v2.drew = u ∧ Below v2.heap.size v2 u := ⟨_, rfl, (Below.refl _ _).drew⟩
    have hT0 := TB.ext K7.out hc
    have hlt := hT0.lt
    have HU0 := Lib.hid hu0
    have hz : u0.heap.size ≤ u0.heap.size := Nat.le_refl _
    have q0 := fun w' (t : Turn (fun i => u0.heap.size ≤ i) u0 w') => (hT0.turn t (by omega)).c0
    have q1 := fun w' (t : Turn (fun i => u0.heap.size ≤ i) u0 w') => (hT0.turn t (by omega)).c1
    clear hu0
    refine wp_region_gs (F := fun i => u0.heap.size ≤ i) (.rd 0 (.two 1 (.two 2 (.rd 3 (.rd 4 (.rd 5 (.rd 6 (.call 7 (.call 8 (.rd 9 (.rd 10 .done)))))))) 7 (.call 2 (.rd 3 (.rd 4 (.rd 5 (.rd 6 (.call 8 (.rd 9 (.rd 10 .done))))))))) 7 (.call 1 (.call 2 (.rd 3 (.rd 4 (.rd 5 (.rd 6 (.call 8 (.rd 9 (.rd 10 .done))))))))))) (by kernel_rfl) (by kernel_rfl) (by kernel_rfl) (by kernel_rfl) (fun _ _ _ _ _ h => h) ?_
    rw [HU0.out]
    (refine wpGs_read (o := ⟨_, _, _, _, _, _⟩) (v := ?_) rfl (by rfl) ?_ ?_; rotate_left; (intro w' hw'; go_simp; with_reducible rfl); simp only [Act.put, List.setIfInBounds_toArray, List.set_cons_zero, List.set_cons_succ])
    clear q0 q1 hT0 hlt HU0
    refine ⟨?_, ?_⟩
    · refine stepS_call (o := ⟨_, _, _, _, _, _⟩) rfl (by rfl) (fun K hK => ?_)
      go_simp
      refine (below_any 1024 _ (by omega)).mono ?_
      rintro e uB ⟨rfl, hb⟩
      refine hK _ _ (Turn.ofBelow hb) ?_
      clear hK K
      replace hc := hc.trans (hb.mono hc.size)
      replace hz := Nat.le_trans hz hb.size
      clear hb
      refine ⟨?_, ?_⟩
      · refine stepS_call (o := ⟨_, _, _, _, _, _⟩) rfl (by rfl) (fun K hK => ?_)
        go_simp
        refine (HL.out _ hc).mono ?_
        rintro e uL ⟨pU, vU, rfl, htr, hwv, hb⟩
        refine hK _ _ (Turn.ofBelow hb) ?_
        clear hK K
        replace hc := hc.trans (hb.mono hc.size)
        replace hz := Nat.le_trans hz hb.size
        clear hb
        iterate 4 (refine wpGs_read (o := ⟨_, _, _, _, _, _⟩) (v := ?_) rfl (by rfl) ?_ ?_; rotate_left; (intro w' hw'; go_simp; with_reducible rfl); simp only [Act.put, List.setIfInBounds_toArray, List.set_cons_zero, List.set_cons_succ])
        obtain ⟨uA, hA0, hA, hb⟩ := alloc_own uL TT #[.pointer none, .int .i64 0]
        have HA0 := Lib.hid hA0
        have hG : v2.heap.size ≤ uL.heap.size := hc.size
        have hG0 : u0.heap.size ≤ uL.heap.size := hz
        replace hA : TB uA uL.heap.size none 0 := hA
        clear hA0
        refine stepS_call (o := ⟨_, _, _, _, _, _⟩) rfl (by rfl) (fun K hK => ?_)
        go_simp
        rw [HA0.out]
        refine hK _ _ (Turn.ofBelow hb) ?_
        clear hK K
        clear HA0
        try simp only [Act.put, List.setIfInBounds_toArray, List.set_cons_zero, List.set_cons_succ]
        replace hc := hc.trans (hb.mono hc.size)
        replace hz := Nat.le_trans hz hb.size
        replace htr := htr.ext hb
        replace hwv := hwv.ext hb
        clear hb
        have c0 := hA.c0
        have c1 := hA.c1
        have f0 := hA.fz 0
        have f1 := hA.fz 1
        have hfin := Lib.hid (LR.put (n := L) hA hG htr hwv hc)
        have HT : Hid (Turn (fun i => u0.heap.size ≤ i) uA ((uA.setCell ⟨uL.heap.size, 0, none⟩ (.pointer pU)).setCell ⟨uL.heap.size, 1, none⟩ (.int .i64 (L : Nat)))) := (turn_put _ _ _ _).mono (fun i hi _ => by subst hi; exact hG0)
        refine stepS_call (o := ⟨_, _, _, _, _, _⟩) rfl (by rfl) (fun K hK => ?_)
        go_simp
        refine hK _ _ HT.out ?_
        clear hK K c0 c1 f0 f1
        iterate 2 (refine wpGs_read (o := ⟨_, _, _, _, _, _⟩) (v := ?_) rfl (by rfl) ?_ ?_; rotate_left; (intro w' hw'; go_simp; with_reducible rfl); simp only [Act.put, List.setIfInBounds_toArray, List.set_cons_zero, List.set_cons_succ])
        refine wpGs_done ?_
        go_wp2
        go_meet
        exact ⟨_, _, _, rfl, rfl, rfl, hfin⟩
      · obtain ⟨uA, hA0, hA, hb⟩ := alloc_own uB TT #[.pointer none, .int .i64 0]
        have HA0 := Lib.hid hA0
        have hG : v2.heap.size ≤ uB.heap.size := hc.size
        have hG0 : u0.heap.size ≤ uB.heap.size := hz
        replace hA : TB uA uB.heap.size none 0 := hA
        clear hA0
        refine stepS_call (o := ⟨_, _, _, _, _, _⟩) rfl (by rfl) (fun K hK => ?_)
        go_simp
        rw [HA0.out]
        refine hK _ _ (Turn.ofBelow hb) ?_
        clear hK K
        clear HA0
        try simp only [Act.put, List.setIfInBounds_toArray, List.set_cons_zero, List.set_cons_succ]
        replace hc := hc.trans (hb.mono hc.size)
        replace hz := Nat.le_trans hz hb.size
        clear hb
        refine stepS_call (o := ⟨_, _, _, _, _, _⟩) rfl (by rfl) (fun K hK => ?_)
        go_simp
        refine (HL.out _ hc).mono ?_
        rintro e uL ⟨pU, vU, rfl, htr, hwv, hb⟩
        refine hK _ _ (Turn.ofBelow hb) ?_
        clear hK K
        replace hc := hc.trans (hb.mono hc.size)
        replace hz := Nat.le_trans hz hb.size
        replace hA := TB.ext hA hb
        clear hb
        iterate 4 (refine wpGs_read (o := ⟨_, _, _, _, _, _⟩) (v := ?_) rfl (by rfl) ?_ ?_; rotate_left; (intro w' hw'; go_simp; with_reducible rfl); simp only [Act.put, List.setIfInBounds_toArray, List.set_cons_zero, List.set_cons_succ])
        have c0 := hA.c0
        have c1 := hA.c1
        have f0 := hA.fz 0
        have f1 := hA.fz 1
        have hfin := Lib.hid (LR.put (n := L) hA hG htr hwv hc)
        have HT : Hid (Turn (fun i => u0.heap.size ≤ i) uL ((uL.setCell ⟨uB.heap.size, 0, none⟩ (.pointer pU)).setCell ⟨uB.heap.size, 1, none⟩ (.int .i64 (L : Nat)))) := (turn_put _ _ _ _).mono (fun i hi _ => by subst hi; exact hG0)
        refine stepS_call (o := ⟨_, _, _, _, _, _⟩) rfl (by rfl) (fun K hK => ?_)
        go_simp
        refine hK _ _ HT.out ?_
        clear hK K c0 c1 f0 f1
        iterate 2 (refine wpGs_read (o := ⟨_, _, _, _, _, _⟩) (v := ?_) rfl (by rfl) ?_ ?_; rotate_left; (intro w' hw'; go_simp; with_reducible rfl); simp only [Act.put, List.setIfInBounds_toArray, List.set_cons_zero, List.set_cons_succ])
        refine wpGs_done ?_
        go_wp2
        go_meet
        exact ⟨_, _, _, rfl, rfl, rfl, hfin⟩
    · obtain ⟨uA, hA0, hA, hb⟩ := alloc_own u0 TT #[.pointer none, .int .i64 0]
      have HA0 := Lib.hid hA0
      have hG : v2.heap.size ≤ u0.heap.size := hc.size
      have hG0 : u0.heap.size ≤ u0.heap.size := hz
      replace hA : TB uA u0.heap.size none 0 := hA
      clear hA0
      refine stepS_call (o := ⟨_, _, _, _, _, _⟩) rfl (by rfl) (fun K hK => ?_)
      go_simp
      rw [HA0.out]
      refine hK _ _ (Turn.ofBelow hb) ?_
      clear hK K
      clear HA0
      try simp only [Act.put, List.setIfInBounds_toArray, List.set_cons_zero, List.set_cons_succ]
      replace hc := hc.trans (hb.mono hc.size)
      replace hz := Nat.le_trans hz hb.size
      clear hb
      refine stepS_call (o := ⟨_, _, _, _, _, _⟩) rfl (by rfl) (fun K hK => ?_)
      go_simp
      refine (below_any 1024 _ (by omega)).mono ?_
      rintro e uB ⟨rfl, hb⟩
      refine hK _ _ (Turn.ofBelow hb) ?_
      clear hK K
      replace hc := hc.trans (hb.mono hc.size)
      replace hz := Nat.le_trans hz hb.size
      replace hA := TB.ext hA hb
      clear hb
      refine stepS_call (o := ⟨_, _, _, _, _, _⟩) rfl (by rfl) (fun K hK => ?_)
      go_simp
      refine (HL.out _ hc).mono ?_
      rintro e uL ⟨pU, vU, rfl, htr, hwv, hb⟩
      refine hK _ _ (Turn.ofBelow hb) ?_
      clear hK K
      replace hc := hc.trans (hb.mono hc.size)
      replace hz := Nat.le_trans hz hb.size
      replace hA := TB.ext hA hb
      clear hb
      iterate 4 (refine wpGs_read (o := ⟨_, _, _, _, _, _⟩) (v := ?_) rfl (by rfl) ?_ ?_; rotate_left; (intro w' hw'; go_simp; with_reducible rfl); simp only [Act.put, List.setIfInBounds_toArray, List.set_cons_zero, List.set_cons_succ])
      have c0 := hA.c0
      have c1 := hA.c1
      have f0 := hA.fz 0
      have f1 := hA.fz 1
      have hfin := Lib.hid (LR.put (n := L) hA hG htr hwv hc)
      have HT : Hid (Turn (fun i => u0.heap.size ≤ i) uL ((uL.setCell ⟨u0.heap.size, 0, none⟩ (.pointer pU)).setCell ⟨u0.heap.size, 1, none⟩ (.int .i64 (L : Nat)))) := (turn_put _ _ _ _).mono (fun i hi _ => by subst hi; exact hG0)
      refine stepS_call (o := ⟨_, _, _, _, _, _⟩) rfl (by rfl) (fun K hK => ?_)
      go_simp
      refine hK _ _ HT.out ?_
      clear hK K c0 c1 f0 f1
      iterate 2 (refine wpGs_read (o := ⟨_, _, _, _, _, _⟩) (v := ?_) rfl (by rfl) ?_ ?_; rotate_left; (intro w' hw'; go_simp; with_reducible rfl); simp only [Act.put, List.setIfInBounds_toArray, List.set_cons_zero, List.set_cons_succ])
      refine wpGs_done ?_
      go_wp2
      go_meet
      exact ⟨_, _, _, rfl, rfl, rfl, hfin⟩
  case rest =>
    obtain ⟨gU, pU, vU, rfl, rfl, rfl, hU⟩ := hcut
    have hb := hU.out.b
    have HU := hU
    clear hU
    replace HB := Lib.hid (HB.out.trans (Below.mono hb HB.out.size))
    replace HG := Lib.hid (HG.out.below hb)
    replace HW := Lib.hid (HW.out.below hb)
    replace HA := Lib.hid (HA.out.below hb)
    replace HTR := Lib.hid (HTR.out.ext hb)
    replace HEV := Lib.hid (HEV.out.ext hb)
    replace K7 := Lib.hid (TB.ext K7.out hb)
    clear hb
    clear HL
    have Hput := Lib.hid (fun w (ht : TreeT w pU us H) => put_fine pU us H key value L w ht HUl.out.2 (by have := HK.out.2.2; omega) HK.out.1 (by have := HV.out; omega))
    have c0 := HU.out.t.c0
    have c1 := HU.out.t.c1
    go_wp2_with fail
    refine (Hput.out _ HU.out.tr).mono ?_
    rintro e v3 ⟨p2, t2, H2, rfl, ht2, hfr, hb⟩
    replace HB := Lib.hid (HB.out.trans (Below.mono hb HB.out.size))
    replace HG := Lib.hid (HG.out.below hb)
    replace HW := Lib.hid (HW.out.below hb)
    replace HA := Lib.hid (HA.out.below hb)
    replace HTR := Lib.hid (HTR.out.ext hb)
    replace HEV := Lib.hid (HEV.out.ext hb)
    replace K7 := Lib.hid (TB.ext K7.out hb)
    replace HU := Lib.hid (HU.out.ext hb)
    clear hb
    clear c0 c1 Hput
    obtain ⟨M, hM⟩ : ∃ M, (esL t2).length = M := ⟨_, rfl⟩
    rw [hM]
    have hML : M ≤ L + 1 := by
      have h1 := hfr.len
      have h2 := rep_len (esL us) key [⟨key, value, []⟩]
      rw [hM] at h1
      have h3 := HUl.out.2
      simp only [List.length_singleton] at h2
      omega
    have hmix := HLi.out.mix.put hfr
    have hneed := few_need HLi.out hfr (by have := HV.out; omega)
    have hlow := ht2.tp.low (by rw [bare_len, hM]; have := HK.out.2.2; omega)
    obtain ⟨N2, hN2⟩ : ∃ N2, needL t2 = N2 := ⟨_, rfl⟩
    rw [hN2] at hneed
    have HM := Lib.hid (And.intro hM (And.intro hML (And.intro hmix hN2)))
    have hH2 := hlow.1
    have HT2 := Lib.hid ht2
    clear hM hML hmix hN2 hlow hfr ht2
    obtain ⟨v4, hv4, hT, hb⟩ := alloc_own v3 TT #[.pointer p2, .int .i64 M]
    replace HB := Lib.hid (HB.out.trans (Below.mono hb HB.out.size))
    replace HG := Lib.hid (HG.out.below hb)
    replace HW := Lib.hid (HW.out.below hb)
    replace HA := Lib.hid (HA.out.below hb)
    replace HTR := Lib.hid (HTR.out.ext hb)
    replace HEV := Lib.hid (HEV.out.ext hb)
    replace K7 := Lib.hid (TB.ext K7.out hb)
    replace HU := Lib.hid (HU.out.ext hb)
    replace HT2 := Lib.hid (HT2.out.ext hb)
    have K13 : Hid (TB v4 v3.heap.size p2 M) := hT
    have Hv4 := Lib.hid hv4
    clear hv4 hT hb
    obtain ⟨la, lc, rfl, hes, _⟩ := HEV.out
    rw [HLn.out]
    have HE := Lib.hid hes
    clear hes HEV
    go_wp2_with fail
    rw [Hv4.out]
    go_loopw [15, 16] (fun s i wr => ∃ k c : Nat, i = .int .i64 k ∧ s = .int .i64 c ∧ c ≤ k ∧ k ≤ L ∧ v4 = wr) (fun _ i _ => L - (intOf i).toNat)
    case atStart => exact ⟨0, 0, rfl, rfl, by omega, by omega, by first | trivial | rfl⟩
    case round =>
      obtain ⟨k, c, rfl, rfl, hck, hk, rfl⟩ := hrel
      have hL99 : L ≤ 99 := Nat.le_trans HK.out.2.2 hN9
      by_cases hlt : k < L
      · obtain ⟨g, o, rfl, hcell⟩ := HE.out.ents (by rw [HLn.out]; omega)
        obtain ⟨_, p1⟩ := hcell k (by rw [HLn.out]; exact hlt)
        have i4 : (0 : Int) ≤ (k : Int) := by omega
        have i5 : (k : Int) < (L : Int) := by omega
        have z0 : IntKind.i64.wrap (k : Int) = (k : Int) := by rw [IntKind.wrap_i64]; omega
        generalize (ea es k).v = y at *
        clear hcell
        by_cases hy : 64 < y.size
        · have i6 : (64 : Int) < (y.size : Int) := by omega
          go_wp2_with fail
          go_roundw
          case rel => exact ⟨k + 1, c + 1, by go_num, by go_num, by omega, by omega, by first | trivial | rfl⟩
          case measure => simp [intOf]; omega
        · have i6 : ¬ (64 : Int) < (y.size : Int) := by omega
          go_wp2_with fail
          go_roundw
          case rel => exact ⟨k + 1, c, by go_num, rfl, by omega, by omega, by first | trivial | rfl⟩
          case measure => simp [intOf]; omega
      · obtain rfl : k = L := by omega
        have i5 : ¬ (k : Int) < (k : Int) := by omega
        have c0 := TB.c0 K13.out
        have c1 := TB.c1 K13.out
        have CN2 := Lib.hid (fun w ht => need_mix _ p2 M t2 H2 N2 w ht HM.out.2.2.1 HM.out.2.2.2 (by omega))
        go_wp2_with fail
        refine (CN2.out _ HT2.out).mono ?_
        rintro e v5 ⟨rfl, hb⟩
        replace HB := Lib.hid (HB.out.trans (Below.mono hb HB.out.size))
        replace HG := Lib.hid (HG.out.below hb)
        replace HW := Lib.hid (HW.out.below hb)
        replace HA := Lib.hid (HA.out.below hb)
        replace HTR := Lib.hid (HTR.out.ext hb)
        replace K7 := Lib.hid (TB.ext K7.out hb)
        replace HU := Lib.hid (HU.out.ext hb)
        replace HT2 := Lib.hid (HT2.out.ext hb)
        replace K13 := Lib.hid (TB.ext K13.out hb)
        replace HE := Lib.hid (HE.out.ext2 hb)
        clear hb
        clear c0 c1
        have CH := Lib.hid (fun w (ht : TreeT w p2 t2 H2) => height_any p2 M (bare (esL t2)) H2 w ht.tp (by omega))
        have CN0 := Lib.hid (fun w ht => need_mix _ pU k us H 0 w ht HLi.out.mix HLi.out.need (by omega))
        have CU := Lib.hid (fun w ht => used_mix _ pU k us H w ht HLi.out.mix)
        have CC := Lib.hid (fun w => bcount_any (addR (fun _ => false) (uL us)) w)
        rw [cnt_used HLi.out.rg HLi.out.one, HUl.out.1] at CC
        have CN := Lib.hid (fun w ht => need_mix (fun _ => []) p k ts H (needL ts) w ht (HX.out.2.2.1 _) rfl (by have := HX.out.2.2.2; omega))
        have i7 : decide ((N2 : Int) ≤ 3 * (H2 : Int) + 1 + (c : Int)) = true := decide_eq_true (by omega)
        have i8 : (0 : Int) ≤ (N2 : Int) := by omega
        have z1 : IntKind.i64.wrap (3 * (H2 : Int)) = 3 * (H2 : Int) := by rw [IntKind.wrap_i64]; omega
        have z2 : IntKind.i64.wrap (3 * (H2 : Int) + 1) = 3 * (H2 : Int) + 1 := by rw [IntKind.wrap_i64]; omega
        have z3 : IntKind.i64.wrap (3 * (H2 : Int) + 1 + (c : Int)) = 3 * (H2 : Int) + 1 + (c : Int) := by rw [IntKind.wrap_i64]; omega
        generalize needL ts = N0 at *
        go_wp2_with fail
        refine wp_region_gr [(0, true), (1, true), (2, true), (3, true), (4, true), (8, true), (5, false), (6, true), (7, true), (9, true), (10, true), (11, true), (12, true), (13, true), (14, false), (15, true), (16, true), (17, true), (18, true), (21, true), (19, false), (20, false), (22, false), (23, true), (24, true), (25, true), (26, false), (27, true), (28, true)] (by kernel_rfl) (by kernel_rfl) (by kernel_rfl) (by kernel_rfl) (fun _ _ _ _ _ h => h) ?_
        obtain ⟨ud, hud, hb⟩ : ∃ u, v5.drew = u ∧ Below v5.heap.size v5 u := ⟨_, rfl, (Below.refl _ _).drew⟩
        rw [hud]
        replace HB := Lib.hid (HB.out.trans (Below.mono hb HB.out.size))
        replace HG := Lib.hid (HG.out.below hb)
        replace HW := Lib.hid (HW.out.below hb)
        replace HA := Lib.hid (HA.out.below hb)
        replace HTR := Lib.hid (HTR.out.ext hb)
        replace K7 := Lib.hid (TB.ext K7.out hb)
        replace HU := Lib.hid (HU.out.ext hb)
        replace HT2 := Lib.hid (HT2.out.ext hb)
        replace K13 := Lib.hid (TB.ext K13.out hb)
        replace HE := Lib.hid (HE.out.ext2 hb)
        clear hb hud
        have qa0 := fun w' (h : Ext ud w') => (TB.ext (K13.out) h).c0
        have qa1 := fun w' (h : Ext ud w') => (TB.ext (K13.out) h).c1
        iterate 6 (refine wpGr_read (o := ⟨_, _, _, _, _, _⟩) (v := ?_) rfl (by rfl) ?_ ?_; rotate_left; (intro w' hw'; go_simp; with_reducible rfl); simp only [Act.put, List.setIfInBounds_toArray, List.set_cons_zero, List.set_cons_succ])
        clear qa0 qa1
        refine wpGr_call (o := ⟨_, _, _, _, _, _⟩) rfl (by rfl) (fun K hK => ?_)
        go_simp
        refine (CH.out ud HT2.out).mono ?_
        rintro e v6 ⟨rfl, hb⟩
        refine hK _ _ hb ?_
        clear hK K
        replace HB := Lib.hid (HB.out.trans (Below.mono hb HB.out.size))
        replace HG := Lib.hid (HG.out.below hb)
        replace HW := Lib.hid (HW.out.below hb)
        replace HA := Lib.hid (HA.out.below hb)
        replace HTR := Lib.hid (HTR.out.ext hb)
        replace K7 := Lib.hid (TB.ext K7.out hb)
        replace HU := Lib.hid (HU.out.ext hb)
        replace HT2 := Lib.hid (HT2.out.ext hb)
        replace K13 := Lib.hid (TB.ext K13.out hb)
        replace HE := Lib.hid (HE.out.ext2 hb)
        clear hb
        try simp only [Act.put, List.setIfInBounds_toArray, List.set_cons_zero, List.set_cons_succ]
        have qa0 := fun w' (h : Ext v6 w') => (TB.ext (HU.out.t) h).c0
        have qa1 := fun w' (h : Ext v6 w') => (TB.ext (HU.out.t) h).c1
        iterate 7 (refine wpGr_read (o := ⟨_, _, _, _, _, _⟩) (v := ?_) rfl (by rfl) ?_ ?_; rotate_left; (intro w' hw'; go_simp; with_reducible rfl); simp only [Act.put, List.setIfInBounds_toArray, List.set_cons_zero, List.set_cons_succ])
        clear qa0 qa1
        refine wpGr_call (o := ⟨_, _, _, _, _, _⟩) rfl (by rfl) (fun K hK => ?_)
        go_simp
        refine (CN0.out v6 HU.out.tr).mono ?_
        rintro e v7 ⟨rfl, hb⟩
        refine hK _ _ hb ?_
        clear hK K
        replace HB := Lib.hid (HB.out.trans (Below.mono hb HB.out.size))
        replace HG := Lib.hid (HG.out.below hb)
        replace HW := Lib.hid (HW.out.below hb)
        replace HA := Lib.hid (HA.out.below hb)
        replace HTR := Lib.hid (HTR.out.ext hb)
        replace K7 := Lib.hid (TB.ext K7.out hb)
        replace HU := Lib.hid (HU.out.ext hb)
        replace HT2 := Lib.hid (HT2.out.ext hb)
        replace K13 := Lib.hid (TB.ext K13.out hb)
        replace HE := Lib.hid (HE.out.ext2 hb)
        clear hb
        try simp only [Act.put, List.setIfInBounds_toArray, List.set_cons_zero, List.set_cons_succ]
        have qa0 := fun w' (h : Ext v7 w') => (TB.ext (HU.out.t) h).c0
        have qa1 := fun w' (h : Ext v7 w') => (TB.ext (HU.out.t) h).c1
        have qb0 := fun w' (h : Ext v7 w') => (TB.ext (K7.out) h).c0
        have qb1 := fun w' (h : Ext v7 w') => (TB.ext (K7.out) h).c1
        iterate 5 (refine wpGr_read (o := ⟨_, _, _, _, _, _⟩) (v := ?_) rfl (by rfl) ?_ ?_; rotate_left; (intro w' hw'; go_simp; with_reducible rfl); simp only [Act.put, List.setIfInBounds_toArray, List.set_cons_zero, List.set_cons_succ])
        clear qa0 qa1 qb0 qb1
        refine wpGr_call (o := ⟨_, _, _, _, _, _⟩) rfl (by rfl) (fun K hK => ?_)
        go_simp
        refine (CU.out v7 HU.out.tr).mono ?_
        rintro e v8 ⟨rfl, hb⟩
        refine hK _ _ hb ?_
        clear hK K
        replace HB := Lib.hid (HB.out.trans (Below.mono hb HB.out.size))
        replace HG := Lib.hid (HG.out.below hb)
        replace HW := Lib.hid (HW.out.below hb)
        replace HA := Lib.hid (HA.out.below hb)
        replace HTR := Lib.hid (HTR.out.ext hb)
        replace K7 := Lib.hid (TB.ext K7.out hb)
        replace HU := Lib.hid (HU.out.ext hb)
        replace HT2 := Lib.hid (HT2.out.ext hb)
        replace K13 := Lib.hid (TB.ext K13.out hb)
        replace HE := Lib.hid (HE.out.ext2 hb)
        clear hb
        try simp only [Act.put, List.setIfInBounds_toArray, List.set_cons_zero, List.set_cons_succ]
        refine wpGr_call (o := ⟨_, _, _, _, _, _⟩) rfl (by rfl) (fun K hK => ?_)
        go_simp
        refine (CC.out v8).mono ?_
        rintro e v9 ⟨rfl, hb⟩
        refine hK _ _ hb ?_
        clear hK K
        replace HB := Lib.hid (HB.out.trans (Below.mono hb HB.out.size))
        replace HG := Lib.hid (HG.out.below hb)
        replace HW := Lib.hid (HW.out.below hb)
        replace HA := Lib.hid (HA.out.below hb)
        replace HTR := Lib.hid (HTR.out.ext hb)
        replace K7 := Lib.hid (TB.ext K7.out hb)
        replace HU := Lib.hid (HU.out.ext hb)
        replace HT2 := Lib.hid (HT2.out.ext hb)
        replace K13 := Lib.hid (TB.ext K13.out hb)
        replace HE := Lib.hid (HE.out.ext2 hb)
        clear hb
        try simp only [Act.put, List.setIfInBounds_toArray, List.set_cons_zero, List.set_cons_succ]
        refine wpGr_call (o := ⟨_, _, _, _, _, _⟩) rfl (by rfl) (fun K hK => ?_)
        go_simp
        refine (CN.out v9 HTR.out).mono ?_
        rintro e v10 ⟨rfl, hb⟩
        refine hK _ _ hb ?_
        clear hK K
        replace HB := Lib.hid (HB.out.trans (Below.mono hb HB.out.size))
        replace HG := Lib.hid (HG.out.below hb)
        replace HW := Lib.hid (HW.out.below hb)
        replace HA := Lib.hid (HA.out.below hb)
        replace HTR := Lib.hid (HTR.out.ext hb)
        replace K7 := Lib.hid (TB.ext K7.out hb)
        replace HU := Lib.hid (HU.out.ext hb)
        replace HT2 := Lib.hid (HT2.out.ext hb)
        replace K13 := Lib.hid (TB.ext K13.out hb)
        replace HE := Lib.hid (HE.out.ext2 hb)
        clear hb
        try simp only [Act.put, List.setIfInBounds_toArray, List.set_cons_zero, List.set_cons_succ]
        iterate 3 (refine wpGr_read (o := ⟨_, _, _, _, _, _⟩) (v := ?_) rfl (by rfl) ?_ ?_; rotate_left; (intro w' hw'; go_simp; with_reducible rfl); simp only [Act.put, List.setIfInBounds_toArray, List.set_cons_zero, List.set_cons_succ])
        refine wpGr_call (o := ⟨_, _, _, _, _, _⟩) rfl (by rfl) (fun K hK => ?_)
        go_simp
        refine (psure_any v10 HG.out HW.out HA.out).mono ?_
        rintro e v11 ⟨rfl, hb⟩
        refine hK _ _ hb ?_
        clear hK K
        replace HB := Lib.hid (HB.out.trans (Below.mono hb HB.out.size))
        replace HG := Lib.hid (HG.out.below hb)
        replace HW := Lib.hid (HW.out.below hb)
        replace HA := Lib.hid (HA.out.below hb)
        replace HTR := Lib.hid (HTR.out.ext hb)
        replace K7 := Lib.hid (TB.ext K7.out hb)
        replace HU := Lib.hid (HU.out.ext hb)
        replace HT2 := Lib.hid (HT2.out.ext hb)
        replace K13 := Lib.hid (TB.ext K13.out hb)
        replace HE := Lib.hid (HE.out.ext2 hb)
        clear hb
        try simp only [Act.put, List.setIfInBounds_toArray, List.set_cons_zero, List.set_cons_succ]
        iterate 2 (refine wpGr_read (o := ⟨_, _, _, _, _, _⟩) (v := ?_) rfl (by rfl) ?_ ?_; rotate_left; (intro w' hw'; go_simp; with_reducible rfl); simp only [Act.put, List.setIfInBounds_toArray, List.set_cons_zero, List.set_cons_succ])
        refine wpGr_done ?_
        go_wp2
        go_ret
        exact ⟨rfl, HB.out⟩
end Go.Proofs.YtdgladhfibfdlaaGreatDoor
