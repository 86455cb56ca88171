/-
  tree's parted.
-/
import Derived.Test.YtbgkjniagedcnaaGreatDoorJoinZ
import Derived.Test.YtbgkjniagedcnaaGreatDoorFill1Z
namespace Go.Proofs.YtbgkjniagedcnaaGreatDoor
open Go Go.RowKit

theorem fiB_no {s : Nat} (h : 504 < s) : fiB (s : Int) = false := by
  unfold fiB; rw [decide_eq_false (show ¬ (s : Int) ≤ 504 by omega), Bool.and_false]
theorem fiB_yes {s : Nat} (h : s ≤ 504) : fiB (s : Int) = true := by
  unfold fiB; rw [decide_eq_true (show (s : Int) ≤ 504 by omega), decide_eq_true (show (0 : Int) ≤ (s : Int) by omega)]; rfl
/-- The place of a leaf's parts. -/
theorem leaf_mid {es : List En} (hok : ∀ x ∈ es, okE x) (h1 : 504 < leafSz es) (h2 : leafSz es ≤ 700) :
    spE (szI es) ((vs es.length : Nat) : Int) = 0 ∧ ∃ a : Nat, spN (szI es) ((vs es.length : Nat) : Int) = (a : Int) ∧ 1 ≤ a ∧ a < es.length ∧ 126 ≤ leafSz (es.take a) ∧ leafSz (es.take a) ≤ 504 ∧ 126 ≤ leafSz (es.drop a) ∧ leafSz (es.drop a) ≤ 504 := by
  have hr := szs_range hok
  have hsz : leafSz es = vs es.length + szs es := rfl
  have hn : es.length ≤ 233 := by omega
  have hv : vs es.length ≤ 2 := vs_pow 2 _ (by omega) (by omega)
  have hpf : pf (szI es) (szI es).length = ((szs es : Nat) : Int) := by rw [pf_szI, szI_len, List.take_of_length_le (Nat.le_refl _)]
  obtain ⟨hE, a, hA, ha1, ha2, p1, p2, p3, p4⟩ := mids (l := szI es) ((vs es.length : Nat) : Int) (by omega) (fun i hi => by
    rw [szI_len] at hi
    rw [szI_at es i hi]
    have := szE_range (hok _ (ea_mem hi))
    omega) (by rw [szI_len]; omega) (by rw [hpf]; omega) (by rw [hpf]; omega)
  rw [hpf, pf_szI] at p3 p4
  rw [pf_szI] at p1 p2
  rw [szI_len] at ha2
  have hsum : szs es = szs (es.take a) + szs (es.drop a) := by rw [← szs_app, List.take_append_drop]
  have v1 := vs_pos (es.take a).length
  have v2 := vs_pos (es.drop a).length
  have v3 : vs (es.take a).length ≤ 2 := vs_pow 2 _ (by rw [List.length_take]; omega) (by omega)
  have v4 : vs (es.drop a).length ≤ 2 := vs_pow 2 _ (by rw [List.length_drop]; omega) (by omega)
  have e1 : leafSz (es.take a) = vs (es.take a).length + szs (es.take a) := rfl
  have e2 : leafSz (es.drop a) = vs (es.drop a).length + szs (es.drop a) := rfl
  exact ⟨hE, a, hA, ha1, ha2, by omega, by omega, by omega, by omega⟩
/-- The place of a branch's parts. -/
theorem bran_mid {ks : List ByteArray} (hok : ∀ x ∈ ks, okK x = true) (h1 : 504 < brSz ks) (h2 : brSz ks ≤ 700) :
    spE (ksI ks) 2 = 0 ∧ ∃ a : Nat, spN (ksI ks) 2 = (a : Int) ∧ 1 ≤ a ∧ a + 1 < ks.length ∧ 126 ≤ brSz (ks.take a) ∧ brSz (ks.take a) ≤ 504 ∧ 126 ≤ brSz (ks.drop (a + 1)) ∧ brSz (ks.drop (a + 1)) ≤ 504 := by
  have hr := kss_range hok
  have hsz : brSz ks = 2 + kss ks := rfl
  have hn : ks.length ≤ 175 := by omega
  have hpf : pf (ksI ks) (ksI ks).length = ((kss ks : Nat) : Int) := by rw [pf_ksI, ksI_len, List.take_of_length_le (Nat.le_refl _)]
  obtain ⟨hE, a, hA, ha1, ha2, p1, p2, p3, p4⟩ := mids (l := ksI ks) 2 (by omega) (fun i hi => by
    rw [ksI_len] at hi
    rw [ksI_at ks i hi]
    have h3 : sa ks i ∈ ks := by unfold sa; rw [List.getD_eq_getElem?_getD, List.getElem?_eq_getElem hi]; exact List.getElem_mem _
    have := okK_size (hok _ h3)
    omega) (by rw [ksI_len]; omega) (by rw [hpf]; omega) (by rw [hpf]; omega)
  rw [hpf, pf_ksI] at p3 p4
  rw [pf_ksI] at p1 p2
  rw [ksI_len] at ha2
  have h3 : sa ks a ∈ ks := by unfold sa; rw [List.getD_eq_getElem?_getD, List.getElem?_eq_getElem ha2]; exact List.getElem_mem _
  have h4 := okK_size (hok _ h3)
  have hsum : kss ks = kss (ks.take a) + (3 + (sa ks a).size + kss (ks.drop (a + 1))) := by
    rw [← kss_cons, ← sa_drop ks a ha2, ← kss_app, List.take_append_drop]
  have e1 : brSz (ks.take a) = 2 + kss (ks.take a) := rfl
  have e2 : brSz (ks.drop (a + 1)) = 2 + kss (ks.drop (a + 1)) := rfl
  have hlt : a + 1 < ks.length := by
    rcases Nat.lt_or_ge (a + 1) ks.length with h | h
    · exact h
    · rw [List.drop_of_length_le h] at hsum
      have : kss ([] : List ByteArray) = 0 := rfl
      omega
  exact ⟨hE, a, hA, ha1, hlt, by omega, by omega, by omega, by omega⟩
/-- A node that fits stays whole. -/
theorem parted_fits (b s : Nat) (w : World) (hs : s ≤ 504) (h1 : Calls Tryz.prog 81 #[pt b] w fun e w' => e = .returned (.int .i64 (s : Nat)) ∧ Below w.heap.size w w') :
    Calls Tryz.prog 77 #[pt b] w fun e w' => ∃ vp, e = .returned (.tuple #[vp, nilS]) ∧ EV ptrE w' vp [b] ∧ Below w.heap.size w w' := by
  have H1 := Lib.hid h1
  have hf := fun w => fits_any (s : Int) w
  rw [fiB_yes hs] at hf
  have Hf := Lib.hid hf
  clear h1 hf
  go_enter Tryz.func77, Tryz.ntmps77
  go_wp2_with fail
  refine H1.out.mono ?_
  rintro e w1 ⟨rfl, hb1⟩
  have Hb1 := Lib.hid hb1
  clear H1 hb1
  go_wp2_with fail
  refine (Hf.out _).mono ?_
  rintro e w' ⟨rfl, rfl⟩
  clear Hf
  go_wp2
  go_ret2
  refine ⟨_, rfl, ⟨some ⟨w1.heap.size, 0, none⟩, 1, rfl, ES.lit (E := ptrE) (l := [b]) (heap_new w1 _ _), (fun h => by cases h), Nat.le_refl _, by unfold maxLen; simp⟩, Hb1.out.alloc Hb1.out.size _⟩
set_option maxHeartbeats 1000000 in
set_option maxRecDepth 100000 in
theorem parted_leaf (b : Nat) (es : List En) (w : World) (hb : Leaf w b es) (hok : ∀ x ∈ es, okE x) (h1 : 504 < leafSz es) (h2 : leafSz es ≤ 700) :
    Calls Tryz.prog 77 #[pt b] w fun e w' => ∃ (a b1 b2 : Nat) (vp vk : Value), e = .returned (.tuple #[vp, vk]) ∧ EV ptrE w' vp [b1, b2] ∧ EV strE w' vk [(ea es a).k] ∧ LeafP w' b1 0 (es.take a) ∧ LeafP w' b2 0 (es.drop a) ∧
      1 ≤ a ∧ a < es.length ∧ (126 ≤ leafSz (es.take a) ∧ leafSz (es.take a) ≤ 504) ∧ (126 ≤ leafSz (es.drop a) ∧ leafSz (es.drop a) ≤ 504) ∧ Below w.heap.size w w' := by
  have hr := szs_range hok
  have hl : es.length ≤ 233 := by have : leafSz es = vs es.length + szs es := rfl; omega
  obtain ⟨hE, a, hA, ha1, ha2, p1, p2, p3, p4⟩ := leaf_mid hok h1 h2
  have Hp := Lib.hid (And.intro ha1 (And.intro ha2 (And.intro (And.intro p1 p2) (And.intro p3 p4))))
  have Hsz := Lib.hid (size_leaf b es w hb (by omega) hok)
  have Hf := Lib.hid (fun w => fits_any ((leafSz es : Nat) : Int) w)
  rw [fiB_no h1] at Hf
  have Hss := Lib.hid (fun w' hw => sizes_leaf b es w' (hb.ext hw) (by omega) hok)
  have Hbe := Lib.hid (fun w' hw => besides_leaf b es w' (hb.ext hw) (by omega))
  have Hsp := Lib.hid (fun a n c w => split_any a n c (szI es) ((vs es.length : Nat) : Int) w)
  rw [hE, hA, errC_0] at Hsp
  have Hsl := Lib.hid (szI_len es)
  obtain ⟨vc, nb, A0, c, rfl, s0, _, hnc, hcm⟩ := hb
  obtain ⟨g, o, rfl, hcell⟩ := s0.ents (by omega)
  have HN := Lib.hid nb
  have HS := Lib.hid s0
  have HK := Lib.hid (hcell a ha2).1
  have Hy : ∃ y, (ea es a).k = y := ⟨_, rfl⟩
  obtain ⟨y, hy⟩ := Hy
  have HY := Lib.hid hy
  rw [hy] at HK
  have hcm' : c ≤ 9223372036854775807 := by unfold maxLen at hcm; omega
  have HL : ∃ n, es.length = n := ⟨_, rfl⟩
  obtain ⟨n, hn⟩ := HL
  have Hn := Lib.hid hn
  rw [hn] at HN ha2 hnc
  clear hcell hy hn hr hl h1 h2 hE hA p1 p2 p3 p4 hok nb s0 hcm
  have hne : ¬ c = a := by omega
  have i1 : (0 : Int) ≤ (a : Int) := by omega
  have i2 : (a : Int) ≤ (c : Int) := by omega
  have i3 : (a : Int) ≤ (n : Int) := by omega
  have i4 : (a : Int) < (n : Int) := by omega
  have i5 : (n : Int) ≤ (c : Int) := by omega
  have j1 : a ≤ c := by omega
  have j2 : a ≤ n := by omega
  have z0 : IntKind.i64.wrap (a : Int) = (a : Int) := by rw [IntKind.wrap_i64]; omega
  go_enter Tryz.func77, Tryz.ntmps77
  go_wp2_with fail
  refine Hsz.out.mono ?_
  rintro e w1 ⟨rfl, hb1⟩
  have HB := Lib.hid hb1
  clear Hsz hb1
  go_wp2_with fail
  refine (Hf.out _).mono ?_
  rintro e w' ⟨rfl, rfl⟩
  clear Hf
  go_wp2_with fail
  refine (Hss.out w1 HB.out).mono ?_
  rintro e w2 ⟨v, rfl, ⟨x, d, rfl, hs2, hz2, hd1, hd2⟩, hb2⟩
  replace HB := Lib.hid (HB.out.trans (hb2.mono HB.out.size))
  have Hq := Lib.hid (Hsp.out x _ d w2 rfl hs2 hd1 hd2)
  rw [Hsl.out] at Hq ⊢
  clear hs2 hz2 hd1 hd2 hb2 Hss Hsp Hsl
  go_wp2_with fail
  refine (Hbe.out w2 HB.out).mono ?_
  rintro e w' ⟨rfl, rfl⟩
  clear Hbe
  go_wp2_with fail
  refine Hq.out.mono ?_
  rintro e w' ⟨rfl, rfl⟩
  clear Hq
  have hi := Lib.hid (isLeaf_yes b _ _ w2 (HN.out.ext HB.out))
  go_wp2_with fail
  refine hi.out.mono ?_
  rintro e w' ⟨rfl, rfl⟩
  clear hi
  obtain ⟨W, hW⟩ : ∃ W, w2.drew = W := ⟨_, rfl⟩
  replace HB : Hid (Below w.heap.size w W) := by rw [← hW]; exact HB.out.drew
  have HW := Lib.hid hW
  have q0 : ∀ w', Turn (fun _ => False) W w' → w'.cell? ⟨b, 1, none⟩ = some (.slice (some ⟨g, o, none⟩) n c) := fun w' t => ((HN.out.ext HB.out).ext (t.below (Nat.le_refl _) (fun _ h => h.elim))).c1
  have lk : g < w.heap.size := block_lt_of_cell HK.out
  have q1 : ∀ w', Turn (fun _ => False) W w' → w'.cell? ⟨g, o + a * 3, none⟩ = some (.string y) := fun w' t => by
    have hx := HB.out.trans (t.below HB.out.size (fun _ h => h.elim))
    rw [hx.cell (p := ⟨g, o + a * 3, none⟩) lk]; exact HK.out
  have HS1 := Lib.hid (HS.out.take a)
  have HS2 := Lib.hid (HS.out.drop a (o + a * 3) (by rw [Hn.out]; omega) rfl)
  clear hW lk HK
  go_wp2_with fail
  refine wp_region_gs (F := fun _ => False) (.rd 0 (.rd 1 (.rd 2 (.rd 3 (.rd 4 (.rd 5 (.rd 6 (.rd 7 (.rd 9 (.rd 10 (.rd 11 (.rd 12 (.rd 13 (.rd 14 (.rd 15 (.rd 18 (.rd 19 (.rd 20 (.rd 21 (.rd 22 (.rd 23 (.rd 24 (.rd 25 (.rd 26 (.three 8 (.two 16 (.two 17 (.rd 28 (.call 27 (.rd 29 .done))) 27 (.call 17 (.rd 28 (.rd 29 .done)))) 27 (.call 16 (.call 17 (.rd 28 (.rd 29 .done))))) 16 (.two 8 (.two 17 (.rd 28 (.call 27 (.rd 29 .done))) 27 (.call 17 (.rd 28 (.rd 29 .done)))) 27 (.call 8 (.call 17 (.rd 28 (.rd 29 .done))))) 27 (.two 8 (.call 16 (.call 17 (.rd 28 (.rd 29 .done)))) 16 (.call 8 (.call 17 (.rd 28 (.rd 29 .done)))))))))))))))))))))))))))))) (by kernel_rfl) (by kernel_rfl) (by kernel_rfl) (by kernel_rfl) (fun _ _ _ _ _ h => h) ?_
  rw [HW.out]
  iterate 24 (refine wpGs_read (o := ⟨_, _, _, _, _, _⟩) (v := ?_) rfl (by rfl) ?_ ?_; rotate_left; (intro w' hw'; go_simp; with_reducible rfl); simp only [Act.put, List.setIfInBounds_toArray, List.set_cons_zero, List.set_cons_succ])
  clear q0 q1 HW HN
  refine ⟨?_, ?_, ?_⟩
  · obtain ⟨gA, WA, hgA, hwA, hnA, hbA⟩ := alloc_node W (.slice (some ⟨g, o, none⟩) a a) nilS nilS
    have HGA := Lib.hid (And.intro hgA hwA)
    have HbA := Lib.hid hbA
    have FA := Lib.hid hnA
    clear hgA hwA hbA hnA
    replace HB := Lib.hid (HB.out.trans (HbA.out.mono HB.out.size))
    refine stepS_call (o := ⟨_, _, _, _, _, _⟩) rfl (by rfl) (fun K hK => ?_)
    go_simp
    rw [HGA.out.1, HGA.out.2]
    refine hK _ _ (Turn.ofBelow HbA.out) ?_
    clear hK K HGA HbA
    refine ⟨?_, ?_⟩
    · obtain ⟨gB, WB, hgB, hwB, hnB, hbB⟩ := alloc_node WA (.slice (some ⟨g, o + a * 3, none⟩) (n - a) (c - a)) nilS nilS
      have HGB := Lib.hid (And.intro hgB hwB)
      have HbB := Lib.hid hbB
      have FB := Lib.hid hnB
      clear hgB hwB hbB hnB
      replace FA := Lib.hid (FA.out.ext HbB.out)
      replace HB := Lib.hid (HB.out.trans (HbB.out.mono HB.out.size))
      refine stepS_call (o := ⟨_, _, _, _, _, _⟩) rfl (by rfl) (fun K hK => ?_)
      go_simp
      rw [HGB.out.1, HGB.out.2]
      refine hK _ _ (Turn.ofBelow HbB.out) ?_
      clear hK K HGB HbB
      refine ⟨?_, ?_⟩
      · obtain ⟨gC, WC, hgC, hwC, hcC, hbC⟩ := alloc_lit WB 25 #[pt gA, pt gB]
        have HGC := Lib.hid (And.intro hgC hwC)
        have HbC := Lib.hid hbC
        have FC : Hid (ES ptrE WC (some ⟨gC, 0, none⟩) [gA, gB]) := ES.lit (E := ptrE) (l := [gA, gB]) hcC
        clear hgC hwC hbC hcC
        replace FA := Lib.hid (FA.out.ext HbC.out)
        replace FB := Lib.hid (FB.out.ext HbC.out)
        replace HB := Lib.hid (HB.out.trans (HbC.out.mono HB.out.size))
        refine stepS_call (o := ⟨_, _, _, _, _, _⟩) rfl (by rfl) (fun K hK => ?_)
        go_simp
        rw [HGC.out.1, HGC.out.2]
        refine hK _ _ (Turn.ofBelow HbC.out) ?_
        clear hK K HGC HbC
        (refine wpGs_read (o := ⟨_, _, _, _, _, _⟩) (v := ?_) rfl (by rfl) ?_ ?_; rotate_left; (intro w' hw'; go_simp; with_reducible rfl); simp only [Act.put, List.setIfInBounds_toArray, List.set_cons_zero, List.set_cons_succ])
        obtain ⟨gK, WK, hgK, hwK, hcK, hbK⟩ := alloc_lit WC 9 #[.string y]
        have HGK := Lib.hid (And.intro hgK hwK)
        have HbK := Lib.hid hbK
        have FK : Hid (ES strE WK (some ⟨gK, 0, none⟩) [y]) := ES.lit (E := strE) (l := [y]) hcK
        clear hgK hwK hbK hcK
        replace FA := Lib.hid (FA.out.ext HbK.out)
        replace FB := Lib.hid (FB.out.ext HbK.out)
        replace FC := Lib.hid (FC.out.below HbK.out (Nat.le_refl _))
        replace HB := Lib.hid (HB.out.trans (HbK.out.mono HB.out.size))
        refine stepS_call (o := ⟨_, _, _, _, _, _⟩) rfl (by rfl) (fun K hK => ?_)
        go_simp
        rw [HGK.out.1, HGK.out.2]
        refine hK _ _ (Turn.ofBelow HbK.out) ?_
        clear hK K HGK HbK
        iterate 1 (refine wpGs_read (o := ⟨_, _, _, _, _, _⟩) (v := ?_) rfl (by rfl) ?_ ?_; rotate_left; (intro w' hw'; go_simp; with_reducible rfl); simp only [Act.put, List.setIfInBounds_toArray, List.set_cons_zero, List.set_cons_succ])
        refine wpGs_done ?_
        go_wp2_with fail
        go_ret2
        exact ⟨a, gA, gB, _, _, rfl, ⟨_, _, rfl, FC.out, (fun h => by cases h), Nat.le_refl _, by unfold maxLen; simp⟩, ⟨_, _, rfl, by rw [HY.out]; exact FK.out, (fun h => by cases h), Nat.le_refl _, by unfold maxLen; simp⟩,
          ⟨_, FA.out, _, _, by rw [List.length_take, Hn.out, Nat.min_eq_left j2], HS1.out.below HB.out (Nat.le_refl _), (fun h => by cases h), by rw [List.length_take]; omega, by unfold maxLen; omega⟩,
          ⟨_, FB.out, _, _, by rw [List.length_drop, Hn.out], HS2.out.below HB.out (Nat.le_refl _), (fun h => by cases h), by rw [List.length_drop, Hn.out]; omega, by unfold maxLen; omega⟩, Hp.out.1, Hp.out.2.1, Hp.out.2.2.1, Hp.out.2.2.2, HB.out⟩
      · obtain ⟨gK, WK, hgK, hwK, hcK, hbK⟩ := alloc_lit WB 9 #[.string y]
        have HGK := Lib.hid (And.intro hgK hwK)
        have HbK := Lib.hid hbK
        have FK : Hid (ES strE WK (some ⟨gK, 0, none⟩) [y]) := ES.lit (E := strE) (l := [y]) hcK
        clear hgK hwK hbK hcK
        replace FA := Lib.hid (FA.out.ext HbK.out)
        replace FB := Lib.hid (FB.out.ext HbK.out)
        replace HB := Lib.hid (HB.out.trans (HbK.out.mono HB.out.size))
        refine stepS_call (o := ⟨_, _, _, _, _, _⟩) rfl (by rfl) (fun K hK => ?_)
        go_simp
        rw [HGK.out.1, HGK.out.2]
        refine hK _ _ (Turn.ofBelow HbK.out) ?_
        clear hK K HGK HbK
        obtain ⟨gC, WC, hgC, hwC, hcC, hbC⟩ := alloc_lit WK 25 #[pt gA, pt gB]
        have HGC := Lib.hid (And.intro hgC hwC)
        have HbC := Lib.hid hbC
        have FC : Hid (ES ptrE WC (some ⟨gC, 0, none⟩) [gA, gB]) := ES.lit (E := ptrE) (l := [gA, gB]) hcC
        clear hgC hwC hbC hcC
        replace FA := Lib.hid (FA.out.ext HbC.out)
        replace FB := Lib.hid (FB.out.ext HbC.out)
        replace FK := Lib.hid (FK.out.below HbC.out (Nat.le_refl _))
        replace HB := Lib.hid (HB.out.trans (HbC.out.mono HB.out.size))
        refine stepS_call (o := ⟨_, _, _, _, _, _⟩) rfl (by rfl) (fun K hK => ?_)
        go_simp
        rw [HGC.out.1, HGC.out.2]
        refine hK _ _ (Turn.ofBelow HbC.out) ?_
        clear hK K HGC HbC
        iterate 2 (refine wpGs_read (o := ⟨_, _, _, _, _, _⟩) (v := ?_) rfl (by rfl) ?_ ?_; rotate_left; (intro w' hw'; go_simp; with_reducible rfl); simp only [Act.put, List.setIfInBounds_toArray, List.set_cons_zero, List.set_cons_succ])
        refine wpGs_done ?_
        go_wp2_with fail
        go_ret2
        exact ⟨a, gA, gB, _, _, rfl, ⟨_, _, rfl, FC.out, (fun h => by cases h), Nat.le_refl _, by unfold maxLen; simp⟩, ⟨_, _, rfl, by rw [HY.out]; exact FK.out, (fun h => by cases h), Nat.le_refl _, by unfold maxLen; simp⟩,
          ⟨_, FA.out, _, _, by rw [List.length_take, Hn.out, Nat.min_eq_left j2], HS1.out.below HB.out (Nat.le_refl _), (fun h => by cases h), by rw [List.length_take]; omega, by unfold maxLen; omega⟩,
          ⟨_, FB.out, _, _, by rw [List.length_drop, Hn.out], HS2.out.below HB.out (Nat.le_refl _), (fun h => by cases h), by rw [List.length_drop, Hn.out]; omega, by unfold maxLen; omega⟩, Hp.out.1, Hp.out.2.1, Hp.out.2.2.1, Hp.out.2.2.2, HB.out⟩
    · obtain ⟨gK, WK, hgK, hwK, hcK, hbK⟩ := alloc_lit WA 9 #[.string y]
      have HGK := Lib.hid (And.intro hgK hwK)
      have HbK := Lib.hid hbK
      have FK : Hid (ES strE WK (some ⟨gK, 0, none⟩) [y]) := ES.lit (E := strE) (l := [y]) hcK
      clear hgK hwK hbK hcK
      replace FA := Lib.hid (FA.out.ext HbK.out)
      replace HB := Lib.hid (HB.out.trans (HbK.out.mono HB.out.size))
      refine stepS_call (o := ⟨_, _, _, _, _, _⟩) rfl (by rfl) (fun K hK => ?_)
      go_simp
      rw [HGK.out.1, HGK.out.2]
      refine hK _ _ (Turn.ofBelow HbK.out) ?_
      clear hK K HGK HbK
      obtain ⟨gB, WB, hgB, hwB, hnB, hbB⟩ := alloc_node WK (.slice (some ⟨g, o + a * 3, none⟩) (n - a) (c - a)) nilS nilS
      have HGB := Lib.hid (And.intro hgB hwB)
      have HbB := Lib.hid hbB
      have FB := Lib.hid hnB
      clear hgB hwB hbB hnB
      replace FA := Lib.hid (FA.out.ext HbB.out)
      replace FK := Lib.hid (FK.out.below HbB.out (Nat.le_refl _))
      replace HB := Lib.hid (HB.out.trans (HbB.out.mono HB.out.size))
      refine stepS_call (o := ⟨_, _, _, _, _, _⟩) rfl (by rfl) (fun K hK => ?_)
      go_simp
      rw [HGB.out.1, HGB.out.2]
      refine hK _ _ (Turn.ofBelow HbB.out) ?_
      clear hK K HGB HbB
      obtain ⟨gC, WC, hgC, hwC, hcC, hbC⟩ := alloc_lit WB 25 #[pt gA, pt gB]
      have HGC := Lib.hid (And.intro hgC hwC)
      have HbC := Lib.hid hbC
      have FC : Hid (ES ptrE WC (some ⟨gC, 0, none⟩) [gA, gB]) := ES.lit (E := ptrE) (l := [gA, gB]) hcC
      clear hgC hwC hbC hcC
      replace FA := Lib.hid (FA.out.ext HbC.out)
      replace FB := Lib.hid (FB.out.ext HbC.out)
      replace FK := Lib.hid (FK.out.below HbC.out (Nat.le_refl _))
      replace HB := Lib.hid (HB.out.trans (HbC.out.mono HB.out.size))
      refine stepS_call (o := ⟨_, _, _, _, _, _⟩) rfl (by rfl) (fun K hK => ?_)
      go_simp
      rw [HGC.out.1, HGC.out.2]
      refine hK _ _ (Turn.ofBelow HbC.out) ?_
      clear hK K HGC HbC
      iterate 2 (refine wpGs_read (o := ⟨_, _, _, _, _, _⟩) (v := ?_) rfl (by rfl) ?_ ?_; rotate_left; (intro w' hw'; go_simp; with_reducible rfl); simp only [Act.put, List.setIfInBounds_toArray, List.set_cons_zero, List.set_cons_succ])
      refine wpGs_done ?_
      go_wp2_with fail
      go_ret2
      exact ⟨a, gA, gB, _, _, rfl, ⟨_, _, rfl, FC.out, (fun h => by cases h), Nat.le_refl _, by unfold maxLen; simp⟩, ⟨_, _, rfl, by rw [HY.out]; exact FK.out, (fun h => by cases h), Nat.le_refl _, by unfold maxLen; simp⟩,
        ⟨_, FA.out, _, _, by rw [List.length_take, Hn.out, Nat.min_eq_left j2], HS1.out.below HB.out (Nat.le_refl _), (fun h => by cases h), by rw [List.length_take]; omega, by unfold maxLen; omega⟩,
        ⟨_, FB.out, _, _, by rw [List.length_drop, Hn.out], HS2.out.below HB.out (Nat.le_refl _), (fun h => by cases h), by rw [List.length_drop, Hn.out]; omega, by unfold maxLen; omega⟩, Hp.out.1, Hp.out.2.1, Hp.out.2.2.1, Hp.out.2.2.2, HB.out⟩
  · obtain ⟨gB, WB, hgB, hwB, hnB, hbB⟩ := alloc_node W (.slice (some ⟨g, o + a * 3, none⟩) (n - a) (c - a)) nilS nilS
    have HGB := Lib.hid (And.intro hgB hwB)
    have HbB := Lib.hid hbB
    have FB := Lib.hid hnB
    clear hgB hwB hbB hnB
    replace HB := Lib.hid (HB.out.trans (HbB.out.mono HB.out.size))
    refine stepS_call (o := ⟨_, _, _, _, _, _⟩) rfl (by rfl) (fun K hK => ?_)
    go_simp
    rw [HGB.out.1, HGB.out.2]
    refine hK _ _ (Turn.ofBelow HbB.out) ?_
    clear hK K HGB HbB
    refine ⟨?_, ?_⟩
    · obtain ⟨gA, WA, hgA, hwA, hnA, hbA⟩ := alloc_node WB (.slice (some ⟨g, o, none⟩) a a) nilS nilS
      have HGA := Lib.hid (And.intro hgA hwA)
      have HbA := Lib.hid hbA
      have FA := Lib.hid hnA
      clear hgA hwA hbA hnA
      replace FB := Lib.hid (FB.out.ext HbA.out)
      replace HB := Lib.hid (HB.out.trans (HbA.out.mono HB.out.size))
      refine stepS_call (o := ⟨_, _, _, _, _, _⟩) rfl (by rfl) (fun K hK => ?_)
      go_simp
      rw [HGA.out.1, HGA.out.2]
      refine hK _ _ (Turn.ofBelow HbA.out) ?_
      clear hK K HGA HbA
      refine ⟨?_, ?_⟩
      · obtain ⟨gC, WC, hgC, hwC, hcC, hbC⟩ := alloc_lit WA 25 #[pt gA, pt gB]
        have HGC := Lib.hid (And.intro hgC hwC)
        have HbC := Lib.hid hbC
        have FC : Hid (ES ptrE WC (some ⟨gC, 0, none⟩) [gA, gB]) := ES.lit (E := ptrE) (l := [gA, gB]) hcC
        clear hgC hwC hbC hcC
        replace FB := Lib.hid (FB.out.ext HbC.out)
        replace FA := Lib.hid (FA.out.ext HbC.out)
        replace HB := Lib.hid (HB.out.trans (HbC.out.mono HB.out.size))
        refine stepS_call (o := ⟨_, _, _, _, _, _⟩) rfl (by rfl) (fun K hK => ?_)
        go_simp
        rw [HGC.out.1, HGC.out.2]
        refine hK _ _ (Turn.ofBelow HbC.out) ?_
        clear hK K HGC HbC
        (refine wpGs_read (o := ⟨_, _, _, _, _, _⟩) (v := ?_) rfl (by rfl) ?_ ?_; rotate_left; (intro w' hw'; go_simp; with_reducible rfl); simp only [Act.put, List.setIfInBounds_toArray, List.set_cons_zero, List.set_cons_succ])
        obtain ⟨gK, WK, hgK, hwK, hcK, hbK⟩ := alloc_lit WC 9 #[.string y]
        have HGK := Lib.hid (And.intro hgK hwK)
        have HbK := Lib.hid hbK
        have FK : Hid (ES strE WK (some ⟨gK, 0, none⟩) [y]) := ES.lit (E := strE) (l := [y]) hcK
        clear hgK hwK hbK hcK
        replace FB := Lib.hid (FB.out.ext HbK.out)
        replace FA := Lib.hid (FA.out.ext HbK.out)
        replace FC := Lib.hid (FC.out.below HbK.out (Nat.le_refl _))
        replace HB := Lib.hid (HB.out.trans (HbK.out.mono HB.out.size))
        refine stepS_call (o := ⟨_, _, _, _, _, _⟩) rfl (by rfl) (fun K hK => ?_)
        go_simp
        rw [HGK.out.1, HGK.out.2]
        refine hK _ _ (Turn.ofBelow HbK.out) ?_
        clear hK K HGK HbK
        iterate 1 (refine wpGs_read (o := ⟨_, _, _, _, _, _⟩) (v := ?_) rfl (by rfl) ?_ ?_; rotate_left; (intro w' hw'; go_simp; with_reducible rfl); simp only [Act.put, List.setIfInBounds_toArray, List.set_cons_zero, List.set_cons_succ])
        refine wpGs_done ?_
        go_wp2_with fail
        go_ret2
        exact ⟨a, gA, gB, _, _, rfl, ⟨_, _, rfl, FC.out, (fun h => by cases h), Nat.le_refl _, by unfold maxLen; simp⟩, ⟨_, _, rfl, by rw [HY.out]; exact FK.out, (fun h => by cases h), Nat.le_refl _, by unfold maxLen; simp⟩,
          ⟨_, FA.out, _, _, by rw [List.length_take, Hn.out, Nat.min_eq_left j2], HS1.out.below HB.out (Nat.le_refl _), (fun h => by cases h), by rw [List.length_take]; omega, by unfold maxLen; omega⟩,
          ⟨_, FB.out, _, _, by rw [List.length_drop, Hn.out], HS2.out.below HB.out (Nat.le_refl _), (fun h => by cases h), by rw [List.length_drop, Hn.out]; omega, by unfold maxLen; omega⟩, Hp.out.1, Hp.out.2.1, Hp.out.2.2.1, Hp.out.2.2.2, HB.out⟩
      · obtain ⟨gK, WK, hgK, hwK, hcK, hbK⟩ := alloc_lit WA 9 #[.string y]
        have HGK := Lib.hid (And.intro hgK hwK)
        have HbK := Lib.hid hbK
        have FK : Hid (ES strE WK (some ⟨gK, 0, none⟩) [y]) := ES.lit (E := strE) (l := [y]) hcK
        clear hgK hwK hbK hcK
        replace FB := Lib.hid (FB.out.ext HbK.out)
        replace FA := Lib.hid (FA.out.ext HbK.out)
        replace HB := Lib.hid (HB.out.trans (HbK.out.mono HB.out.size))
        refine stepS_call (o := ⟨_, _, _, _, _, _⟩) rfl (by rfl) (fun K hK => ?_)
        go_simp
        rw [HGK.out.1, HGK.out.2]
        refine hK _ _ (Turn.ofBelow HbK.out) ?_
        clear hK K HGK HbK
        obtain ⟨gC, WC, hgC, hwC, hcC, hbC⟩ := alloc_lit WK 25 #[pt gA, pt gB]
        have HGC := Lib.hid (And.intro hgC hwC)
        have HbC := Lib.hid hbC
        have FC : Hid (ES ptrE WC (some ⟨gC, 0, none⟩) [gA, gB]) := ES.lit (E := ptrE) (l := [gA, gB]) hcC
        clear hgC hwC hbC hcC
        replace FB := Lib.hid (FB.out.ext HbC.out)
        replace FA := Lib.hid (FA.out.ext HbC.out)
        replace FK := Lib.hid (FK.out.below HbC.out (Nat.le_refl _))
        replace HB := Lib.hid (HB.out.trans (HbC.out.mono HB.out.size))
        refine stepS_call (o := ⟨_, _, _, _, _, _⟩) rfl (by rfl) (fun K hK => ?_)
        go_simp
        rw [HGC.out.1, HGC.out.2]
        refine hK _ _ (Turn.ofBelow HbC.out) ?_
        clear hK K HGC HbC
        iterate 2 (refine wpGs_read (o := ⟨_, _, _, _, _, _⟩) (v := ?_) rfl (by rfl) ?_ ?_; rotate_left; (intro w' hw'; go_simp; with_reducible rfl); simp only [Act.put, List.setIfInBounds_toArray, List.set_cons_zero, List.set_cons_succ])
        refine wpGs_done ?_
        go_wp2_with fail
        go_ret2
        exact ⟨a, gA, gB, _, _, rfl, ⟨_, _, rfl, FC.out, (fun h => by cases h), Nat.le_refl _, by unfold maxLen; simp⟩, ⟨_, _, rfl, by rw [HY.out]; exact FK.out, (fun h => by cases h), Nat.le_refl _, by unfold maxLen; simp⟩,
          ⟨_, FA.out, _, _, by rw [List.length_take, Hn.out, Nat.min_eq_left j2], HS1.out.below HB.out (Nat.le_refl _), (fun h => by cases h), by rw [List.length_take]; omega, by unfold maxLen; omega⟩,
          ⟨_, FB.out, _, _, by rw [List.length_drop, Hn.out], HS2.out.below HB.out (Nat.le_refl _), (fun h => by cases h), by rw [List.length_drop, Hn.out]; omega, by unfold maxLen; omega⟩, Hp.out.1, Hp.out.2.1, Hp.out.2.2.1, Hp.out.2.2.2, HB.out⟩
    · obtain ⟨gK, WK, hgK, hwK, hcK, hbK⟩ := alloc_lit WB 9 #[.string y]
      have HGK := Lib.hid (And.intro hgK hwK)
      have HbK := Lib.hid hbK
      have FK : Hid (ES strE WK (some ⟨gK, 0, none⟩) [y]) := ES.lit (E := strE) (l := [y]) hcK
      clear hgK hwK hbK hcK
      replace FB := Lib.hid (FB.out.ext HbK.out)
      replace HB := Lib.hid (HB.out.trans (HbK.out.mono HB.out.size))
      refine stepS_call (o := ⟨_, _, _, _, _, _⟩) rfl (by rfl) (fun K hK => ?_)
      go_simp
      rw [HGK.out.1, HGK.out.2]
      refine hK _ _ (Turn.ofBelow HbK.out) ?_
      clear hK K HGK HbK
      obtain ⟨gA, WA, hgA, hwA, hnA, hbA⟩ := alloc_node WK (.slice (some ⟨g, o, none⟩) a a) nilS nilS
      have HGA := Lib.hid (And.intro hgA hwA)
      have HbA := Lib.hid hbA
      have FA := Lib.hid hnA
      clear hgA hwA hbA hnA
      replace FB := Lib.hid (FB.out.ext HbA.out)
      replace FK := Lib.hid (FK.out.below HbA.out (Nat.le_refl _))
      replace HB := Lib.hid (HB.out.trans (HbA.out.mono HB.out.size))
      refine stepS_call (o := ⟨_, _, _, _, _, _⟩) rfl (by rfl) (fun K hK => ?_)
      go_simp
      rw [HGA.out.1, HGA.out.2]
      refine hK _ _ (Turn.ofBelow HbA.out) ?_
      clear hK K HGA HbA
      obtain ⟨gC, WC, hgC, hwC, hcC, hbC⟩ := alloc_lit WA 25 #[pt gA, pt gB]
      have HGC := Lib.hid (And.intro hgC hwC)
      have HbC := Lib.hid hbC
      have FC : Hid (ES ptrE WC (some ⟨gC, 0, none⟩) [gA, gB]) := ES.lit (E := ptrE) (l := [gA, gB]) hcC
      clear hgC hwC hbC hcC
      replace FB := Lib.hid (FB.out.ext HbC.out)
      replace FA := Lib.hid (FA.out.ext HbC.out)
      replace FK := Lib.hid (FK.out.below HbC.out (Nat.le_refl _))
      replace HB := Lib.hid (HB.out.trans (HbC.out.mono HB.out.size))
      refine stepS_call (o := ⟨_, _, _, _, _, _⟩) rfl (by rfl) (fun K hK => ?_)
      go_simp
      rw [HGC.out.1, HGC.out.2]
      refine hK _ _ (Turn.ofBelow HbC.out) ?_
      clear hK K HGC HbC
      iterate 2 (refine wpGs_read (o := ⟨_, _, _, _, _, _⟩) (v := ?_) rfl (by rfl) ?_ ?_; rotate_left; (intro w' hw'; go_simp; with_reducible rfl); simp only [Act.put, List.setIfInBounds_toArray, List.set_cons_zero, List.set_cons_succ])
      refine wpGs_done ?_
      go_wp2_with fail
      go_ret2
      exact ⟨a, gA, gB, _, _, rfl, ⟨_, _, rfl, FC.out, (fun h => by cases h), Nat.le_refl _, by unfold maxLen; simp⟩, ⟨_, _, rfl, by rw [HY.out]; exact FK.out, (fun h => by cases h), Nat.le_refl _, by unfold maxLen; simp⟩,
        ⟨_, FA.out, _, _, by rw [List.length_take, Hn.out, Nat.min_eq_left j2], HS1.out.below HB.out (Nat.le_refl _), (fun h => by cases h), by rw [List.length_take]; omega, by unfold maxLen; omega⟩,
        ⟨_, FB.out, _, _, by rw [List.length_drop, Hn.out], HS2.out.below HB.out (Nat.le_refl _), (fun h => by cases h), by rw [List.length_drop, Hn.out]; omega, by unfold maxLen; omega⟩, Hp.out.1, Hp.out.2.1, Hp.out.2.2.1, Hp.out.2.2.2, HB.out⟩
  · obtain ⟨gK, WK, hgK, hwK, hcK, hbK⟩ := alloc_lit W 9 #[.string y]
    have HGK := Lib.hid (And.intro hgK hwK)
    have HbK := Lib.hid hbK
    have FK : Hid (ES strE WK (some ⟨gK, 0, none⟩) [y]) := ES.lit (E := strE) (l := [y]) hcK
    clear hgK hwK hbK hcK
    replace HB := Lib.hid (HB.out.trans (HbK.out.mono HB.out.size))
    refine stepS_call (o := ⟨_, _, _, _, _, _⟩) rfl (by rfl) (fun K hK => ?_)
    go_simp
    rw [HGK.out.1, HGK.out.2]
    refine hK _ _ (Turn.ofBelow HbK.out) ?_
    clear hK K HGK HbK
    refine ⟨?_, ?_⟩
    · obtain ⟨gA, WA, hgA, hwA, hnA, hbA⟩ := alloc_node WK (.slice (some ⟨g, o, none⟩) a a) nilS nilS
      have HGA := Lib.hid (And.intro hgA hwA)
      have HbA := Lib.hid hbA
      have FA := Lib.hid hnA
      clear hgA hwA hbA hnA
      replace FK := Lib.hid (FK.out.below HbA.out (Nat.le_refl _))
      replace HB := Lib.hid (HB.out.trans (HbA.out.mono HB.out.size))
      refine stepS_call (o := ⟨_, _, _, _, _, _⟩) rfl (by rfl) (fun K hK => ?_)
      go_simp
      rw [HGA.out.1, HGA.out.2]
      refine hK _ _ (Turn.ofBelow HbA.out) ?_
      clear hK K HGA HbA
      obtain ⟨gB, WB, hgB, hwB, hnB, hbB⟩ := alloc_node WA (.slice (some ⟨g, o + a * 3, none⟩) (n - a) (c - a)) nilS nilS
      have HGB := Lib.hid (And.intro hgB hwB)
      have HbB := Lib.hid hbB
      have FB := Lib.hid hnB
      clear hgB hwB hbB hnB
      replace FA := Lib.hid (FA.out.ext HbB.out)
      replace FK := Lib.hid (FK.out.below HbB.out (Nat.le_refl _))
      replace HB := Lib.hid (HB.out.trans (HbB.out.mono HB.out.size))
      refine stepS_call (o := ⟨_, _, _, _, _, _⟩) rfl (by rfl) (fun K hK => ?_)
      go_simp
      rw [HGB.out.1, HGB.out.2]
      refine hK _ _ (Turn.ofBelow HbB.out) ?_
      clear hK K HGB HbB
      obtain ⟨gC, WC, hgC, hwC, hcC, hbC⟩ := alloc_lit WB 25 #[pt gA, pt gB]
      have HGC := Lib.hid (And.intro hgC hwC)
      have HbC := Lib.hid hbC
      have FC : Hid (ES ptrE WC (some ⟨gC, 0, none⟩) [gA, gB]) := ES.lit (E := ptrE) (l := [gA, gB]) hcC
      clear hgC hwC hbC hcC
      replace FA := Lib.hid (FA.out.ext HbC.out)
      replace FB := Lib.hid (FB.out.ext HbC.out)
      replace FK := Lib.hid (FK.out.below HbC.out (Nat.le_refl _))
      replace HB := Lib.hid (HB.out.trans (HbC.out.mono HB.out.size))
      refine stepS_call (o := ⟨_, _, _, _, _, _⟩) rfl (by rfl) (fun K hK => ?_)
      go_simp
      rw [HGC.out.1, HGC.out.2]
      refine hK _ _ (Turn.ofBelow HbC.out) ?_
      clear hK K HGC HbC
      iterate 2 (refine wpGs_read (o := ⟨_, _, _, _, _, _⟩) (v := ?_) rfl (by rfl) ?_ ?_; rotate_left; (intro w' hw'; go_simp; with_reducible rfl); simp only [Act.put, List.setIfInBounds_toArray, List.set_cons_zero, List.set_cons_succ])
      refine wpGs_done ?_
      go_wp2_with fail
      go_ret2
      exact ⟨a, gA, gB, _, _, rfl, ⟨_, _, rfl, FC.out, (fun h => by cases h), Nat.le_refl _, by unfold maxLen; simp⟩, ⟨_, _, rfl, by rw [HY.out]; exact FK.out, (fun h => by cases h), Nat.le_refl _, by unfold maxLen; simp⟩,
        ⟨_, FA.out, _, _, by rw [List.length_take, Hn.out, Nat.min_eq_left j2], HS1.out.below HB.out (Nat.le_refl _), (fun h => by cases h), by rw [List.length_take]; omega, by unfold maxLen; omega⟩,
        ⟨_, FB.out, _, _, by rw [List.length_drop, Hn.out], HS2.out.below HB.out (Nat.le_refl _), (fun h => by cases h), by rw [List.length_drop, Hn.out]; omega, by unfold maxLen; omega⟩, Hp.out.1, Hp.out.2.1, Hp.out.2.2.1, Hp.out.2.2.2, HB.out⟩
    · obtain ⟨gB, WB, hgB, hwB, hnB, hbB⟩ := alloc_node WK (.slice (some ⟨g, o + a * 3, none⟩) (n - a) (c - a)) nilS nilS
      have HGB := Lib.hid (And.intro hgB hwB)
      have HbB := Lib.hid hbB
      have FB := Lib.hid hnB
      clear hgB hwB hbB hnB
      replace FK := Lib.hid (FK.out.below HbB.out (Nat.le_refl _))
      replace HB := Lib.hid (HB.out.trans (HbB.out.mono HB.out.size))
      refine stepS_call (o := ⟨_, _, _, _, _, _⟩) rfl (by rfl) (fun K hK => ?_)
      go_simp
      rw [HGB.out.1, HGB.out.2]
      refine hK _ _ (Turn.ofBelow HbB.out) ?_
      clear hK K HGB HbB
      obtain ⟨gA, WA, hgA, hwA, hnA, hbA⟩ := alloc_node WB (.slice (some ⟨g, o, none⟩) a a) nilS nilS
      have HGA := Lib.hid (And.intro hgA hwA)
      have HbA := Lib.hid hbA
      have FA := Lib.hid hnA
      clear hgA hwA hbA hnA
      replace FB := Lib.hid (FB.out.ext HbA.out)
      replace FK := Lib.hid (FK.out.below HbA.out (Nat.le_refl _))
      replace HB := Lib.hid (HB.out.trans (HbA.out.mono HB.out.size))
      refine stepS_call (o := ⟨_, _, _, _, _, _⟩) rfl (by rfl) (fun K hK => ?_)
      go_simp
      rw [HGA.out.1, HGA.out.2]
      refine hK _ _ (Turn.ofBelow HbA.out) ?_
      clear hK K HGA HbA
      obtain ⟨gC, WC, hgC, hwC, hcC, hbC⟩ := alloc_lit WA 25 #[pt gA, pt gB]
      have HGC := Lib.hid (And.intro hgC hwC)
      have HbC := Lib.hid hbC
      have FC : Hid (ES ptrE WC (some ⟨gC, 0, none⟩) [gA, gB]) := ES.lit (E := ptrE) (l := [gA, gB]) hcC
      clear hgC hwC hbC hcC
      replace FB := Lib.hid (FB.out.ext HbC.out)
      replace FA := Lib.hid (FA.out.ext HbC.out)
      replace FK := Lib.hid (FK.out.below HbC.out (Nat.le_refl _))
      replace HB := Lib.hid (HB.out.trans (HbC.out.mono HB.out.size))
      refine stepS_call (o := ⟨_, _, _, _, _, _⟩) rfl (by rfl) (fun K hK => ?_)
      go_simp
      rw [HGC.out.1, HGC.out.2]
      refine hK _ _ (Turn.ofBelow HbC.out) ?_
      clear hK K HGC HbC
      iterate 2 (refine wpGs_read (o := ⟨_, _, _, _, _, _⟩) (v := ?_) rfl (by rfl) ?_ ?_; rotate_left; (intro w' hw'; go_simp; with_reducible rfl); simp only [Act.put, List.setIfInBounds_toArray, List.set_cons_zero, List.set_cons_succ])
      refine wpGs_done ?_
      go_wp2_with fail
      go_ret2
      exact ⟨a, gA, gB, _, _, rfl, ⟨_, _, rfl, FC.out, (fun h => by cases h), Nat.le_refl _, by unfold maxLen; simp⟩, ⟨_, _, rfl, by rw [HY.out]; exact FK.out, (fun h => by cases h), Nat.le_refl _, by unfold maxLen; simp⟩,
        ⟨_, FA.out, _, _, by rw [List.length_take, Hn.out, Nat.min_eq_left j2], HS1.out.below HB.out (Nat.le_refl _), (fun h => by cases h), by rw [List.length_take]; omega, by unfold maxLen; omega⟩,
        ⟨_, FB.out, _, _, by rw [List.length_drop, Hn.out], HS2.out.below HB.out (Nat.le_refl _), (fun h => by cases h), by rw [List.length_drop, Hn.out]; omega, by unfold maxLen; omega⟩, Hp.out.1, Hp.out.2.1, Hp.out.2.2.1, Hp.out.2.2.2, HB.out⟩
set_option maxRecDepth 100000 in
theorem parted_bran (b : Nat) (ks : List ByteArray) (ps : List Nat) (w : World) (hb : Bran w b ks ps) (hkp : ps.length = ks.length + 1) (hok : ∀ x ∈ ks, okK x = true) (h1 : 504 < brSz ks) (h2 : brSz ks ≤ 700) :
    Calls Tryz.prog 77 #[pt b] w fun e w' => ∃ (a b1 b2 : Nat) (vp vk : Value), e = .returned (.tuple #[vp, vk]) ∧ EV ptrE w' vp [b1, b2] ∧ EV strE w' vk [sa ks a] ∧ BranP w' b1 0 (ks.take a) (ps.take (a + 1)) ∧ BranP w' b2 0 (ks.drop (a + 1)) (ps.drop (a + 1)) ∧
      1 ≤ a ∧ a + 1 < ks.length ∧ (126 ≤ brSz (ks.take a) ∧ brSz (ks.take a) ≤ 504) ∧ (126 ≤ brSz (ks.drop (a + 1)) ∧ brSz (ks.drop (a + 1)) ≤ 504) ∧ Below w.heap.size w w' := by
  have hr := kss_range hok
  have hl : ks.length ≤ 175 := by have : brSz ks = 2 + kss ks := rfl; omega
  obtain ⟨hE, a, hA, ha1, ha2, p1, p2, p3, p4⟩ := bran_mid hok h1 h2
  have Hp := Lib.hid (And.intro ha1 (And.intro ha2 (And.intro (And.intro p1 p2) (And.intro p3 p4))))
  have Hsz := Lib.hid (size_bran b ks ps w hb (by omega) (by omega) hok)
  have Hf := Lib.hid (fun w => fits_any ((brSz ks : Nat) : Int) w)
  rw [fiB_no h1] at Hf
  have Hss := Lib.hid (fun w' hw => sizes_bran b ks ps w' (hb.ext hw) (by omega) hok)
  have Hbe := Lib.hid (fun w' hw => besides_bran b ks ps w' (hb.ext hw) (by omega))
  have Hsp := Lib.hid (fun a n c w => split_any a n c (ksI ks) 2 w)
  rw [hE, hA, errC_0] at Hsp
  have Hsl := Lib.hid (ksI_len ks)
  obtain ⟨vk, vp, nb, ⟨A0, c, rfl, s0, _, hnc, hcm⟩, ⟨A1, d, rfl, s1, _, hmd, hdm⟩⟩ := hb
  obtain ⟨g, o, rfl, hcell⟩ := s0.texts (by omega)
  obtain ⟨g2, o2, rfl, _⟩ := s1.ptrs (by omega)
  have HN := Lib.hid nb
  have HS := Lib.hid (And.intro s0 s1)
  have HK := Lib.hid (hcell a (by omega))
  have Hy : ∃ y, sa ks a = y := ⟨_, rfl⟩
  obtain ⟨y, hy⟩ := Hy
  have HY := Lib.hid hy
  rw [hy] at HK
  have hcm' : c ≤ 9223372036854775807 := by unfold maxLen at hcm; omega
  have hdm' : d ≤ 9223372036854775807 := by unfold maxLen at hdm; omega
  have HL : ∃ n, ks.length = n := ⟨_, rfl⟩
  obtain ⟨n, hn⟩ := HL
  have HM : ∃ m, ps.length = m := ⟨_, rfl⟩
  obtain ⟨m, hm⟩ := HM
  obtain ⟨r, hr'⟩ : ∃ r, r = a + 1 := ⟨_, rfl⟩
  have Hn := Lib.hid (And.intro hn (And.intro hm hr'))
  rw [hn, hm] at HN hkp
  rw [hn] at ha2 hnc
  rw [hm] at hmd
  rw [← hr'] at ha2
  have z1 : IntKind.i64.wrap ((a : Int) + 1) = (r : Int) := by rw [IntKind.wrap_i64]; omega
  have zr : a < r := by omega
  have Hkp := Lib.hid hkp
  have hrm : r < m := by omega
  clear hcell hy hn hm hr hl h1 h2 hE hA p1 p2 p3 p4 hok nb s0 s1 hcm hdm hr' hkp
  have hne : ¬ c = r := by omega
  have hne2 : ¬ d = r := by omega
  have i1 : (0 : Int) ≤ (a : Int) := by omega
  have i2 : (a : Int) ≤ (c : Int) := by omega
  have i3 : (r : Int) ≤ (n : Int) := by omega
  have i4 : (a : Int) < (n : Int) := by omega
  have i5 : (n : Int) ≤ (c : Int) := by omega
  have i6 : (r : Int) ≤ (m : Int) := by omega
  have i7 : (r : Int) ≤ (d : Int) := by omega
  have i8 : (m : Int) ≤ (d : Int) := by omega
  have i9 : (0 : Int) ≤ (r : Int) := by omega
  have j1 : a ≤ c := by omega
  have j2 : r ≤ n := by omega
  have j3 : r ≤ m := by omega
  have j4 : r ≤ d := by omega
  have j5 : a < n := by omega
  have z0 : IntKind.i64.wrap (a : Int) = (a : Int) := by rw [IntKind.wrap_i64]; omega
  have z2 : IntKind.i64.wrap (r : Int) = (r : Int) := by rw [IntKind.wrap_i64]; omega
  go_enter Tryz.func77, Tryz.ntmps77
  go_wp2_with fail
  refine Hsz.out.mono ?_
  rintro e w1 ⟨rfl, hb1⟩
  have HB := Lib.hid hb1
  clear Hsz hb1
  go_wp2_with fail
  refine (Hf.out _).mono ?_
  rintro e w' ⟨rfl, rfl⟩
  clear Hf
  go_wp2_with fail
  refine (Hss.out w1 HB.out).mono ?_
  rintro e w2 ⟨v, rfl, ⟨x, d9, rfl, hs2, hz2, hd1, hd2⟩, hb2⟩
  replace HB := Lib.hid (HB.out.trans (hb2.mono HB.out.size))
  have Hq := Lib.hid (Hsp.out x _ d9 w2 rfl hs2 hd1 hd2)
  rw [Hsl.out] at Hq ⊢
  clear hs2 hz2 hd1 hd2 hb2 Hss Hsp Hsl
  go_wp2_with fail
  refine (Hbe.out w2 HB.out).mono ?_
  rintro e w' ⟨rfl, rfl⟩
  clear Hbe
  go_wp2_with fail
  refine Hq.out.mono ?_
  rintro e w' ⟨rfl, rfl⟩
  clear Hq
  have hi := Lib.hid (isLeaf_no b _ _ _ _ _ w2 (HN.out.ext HB.out) (by omega))
  go_wp2_with fail
  refine hi.out.mono ?_
  rintro e w' ⟨rfl, rfl⟩
  clear hi
  have HS1 : Hid (ES strE w (some ⟨g, o, none⟩) (ks.take a) ∧ ES ptrE w (some ⟨g2, o2, none⟩) (ps.take r)) := ⟨HS.out.1.take a, HS.out.2.take r⟩
  have HS2 : Hid (ES strE w (some ⟨g, o + r, none⟩) (ks.drop r) ∧ ES ptrE w (some ⟨g2, o2 + r, none⟩) (ps.drop r)) := ⟨HS.out.1.drop r (o + r) (by rw [Hn.out.1]; omega) (by show _ = o + r * 1; omega), HS.out.2.drop r (o2 + r) (by rw [Hn.out.2.1]; omega) (by show _ = o2 + r * 1; omega)⟩
  clear HS
  obtain ⟨W3, hW3⟩ : ∃ W, (w2).drew = W := ⟨_, rfl⟩
  have hdW3 : Below (w2).heap.size (w2) W3 := by rw [← hW3]; exact (Below.refl _ _).drew
  replace HB := Lib.hid (HB.out.trans (hdW3.mono HB.out.size))
  have HW3 := Lib.hid hW3
  clear hW3 hdW3
  have q1 : ∀ w', Turn (fun _ => False) W3 w' → w'.cell? ⟨b, 2, none⟩ = some (.slice (some ⟨g, o, none⟩) n c) := fun w' t => ((HN.out.ext HB.out).ext (t.below (Nat.le_refl _) (fun _ h => h.elim))).c2
  have q2 : ∀ w', Turn (fun _ => False) W3 w' → w'.cell? ⟨b, 3, none⟩ = some (.slice (some ⟨g2, o2, none⟩) m d) := fun w' t => ((HN.out.ext HB.out).ext (t.below (Nat.le_refl _) (fun _ h => h.elim))).c3
  go_wp2_with fail
  refine wp_region_gs (F := fun _ => False) (.rd 0 (.rd 1 (.rd 2 (.rd 3 (.rd 4 (.rd 5 (.rd 6 (.rd 7 (.rd 8 (.rd 9 (.rd 10 (.rd 11 (.rd 12 (.rd 13 (.rd 14 (.rd 15 (.rd 16 (.call 17 (.rd 18 .done))))))))))))))))))) (by kernel_rfl) (by kernel_rfl) (by kernel_rfl) (by kernel_rfl) (fun _ _ _ _ _ h => h) ?_
  rw [HW3.out]
  iterate 17 (refine wpGs_read (o := ⟨_, _, _, _, _, _⟩) (v := ?_) rfl (by rfl) ?_ ?_; rotate_left; (intro w' hw'; go_simp; with_reducible rfl); simp only [Act.put, List.setIfInBounds_toArray, List.set_cons_zero, List.set_cons_succ])
  clear q1 q2 HW3
  obtain ⟨gA, WA, hgA, hwA, hnA, hbA⟩ := alloc_node W3 nilS (.slice (some ⟨g, o, none⟩) a a) (.slice (some ⟨g2, o2, none⟩) r r)
  have HGA := Lib.hid (And.intro hgA hwA)
  have HbA := Lib.hid hbA
  have FA := Lib.hid hnA
  clear hgA hwA hbA hnA
  replace HB := Lib.hid (HB.out.trans (HbA.out.mono HB.out.size))
  refine stepS_call (o := ⟨_, _, _, _, _, _⟩) rfl (by rfl) (fun K hK => ?_)
  go_simp
  rw [HGA.out.1, HGA.out.2]
  refine hK _ _ (Turn.ofBelow HbA.out) ?_
  clear hK K HGA HbA
  (refine wpGs_read (o := ⟨_, _, _, _, _, _⟩) (v := ?_) rfl (by rfl) ?_ ?_; rotate_left; (intro w' hw'; go_simp; with_reducible rfl); simp only [Act.put, List.setIfInBounds_toArray, List.set_cons_zero, List.set_cons_succ])
  refine wpGs_done ?_
  obtain ⟨W4, hW4⟩ : ∃ W, (WA).drew = W := ⟨_, rfl⟩
  have hdW4 : Below (WA).heap.size (WA) W4 := by rw [← hW4]; exact (Below.refl _ _).drew
  replace FA := Lib.hid (FA.out.ext hdW4)
  replace HB := Lib.hid (HB.out.trans (hdW4.mono HB.out.size))
  have HW4 := Lib.hid hW4
  clear hW4 hdW4
  have q1 : ∀ w', Turn (fun _ => False) W4 w' → w'.cell? ⟨b, 2, none⟩ = some (.slice (some ⟨g, o, none⟩) n c) := fun w' t => ((HN.out.ext HB.out).ext (t.below (Nat.le_refl _) (fun _ h => h.elim))).c2
  have q2 : ∀ w', Turn (fun _ => False) W4 w' → w'.cell? ⟨b, 3, none⟩ = some (.slice (some ⟨g2, o2, none⟩) m d) := fun w' t => ((HN.out.ext HB.out).ext (t.below (Nat.le_refl _) (fun _ h => h.elim))).c3
  go_wp2_with fail
  refine wp_region_gs (F := fun _ => False) (.rd 0 (.rd 1 (.rd 2 (.rd 3 (.rd 4 (.rd 5 (.rd 6 (.rd 7 (.rd 8 (.rd 9 (.rd 10 (.rd 11 (.rd 12 (.rd 13 (.rd 14 (.call 15 (.rd 16 .done))))))))))))))))) (by kernel_rfl) (by kernel_rfl) (by kernel_rfl) (by kernel_rfl) (fun _ _ _ _ _ h => h) ?_
  rw [HW4.out]
  iterate 15 (refine wpGs_read (o := ⟨_, _, _, _, _, _⟩) (v := ?_) rfl (by rfl) ?_ ?_; rotate_left; (intro w' hw'; go_simp; with_reducible rfl); simp only [Act.put, List.setIfInBounds_toArray, List.set_cons_zero, List.set_cons_succ])
  clear q1 q2 HW4
  obtain ⟨gB, WB, hgB, hwB, hnB, hbB⟩ := alloc_node W4 nilS (.slice (some ⟨g, o + r, none⟩) (n - r) (c - r)) (.slice (some ⟨g2, o2 + r, none⟩) (m - r) (d - r))
  have HGB := Lib.hid (And.intro hgB hwB)
  have HbB := Lib.hid hbB
  have FB := Lib.hid hnB
  clear hgB hwB hbB hnB
  replace FA := Lib.hid (FA.out.ext HbB.out)
  replace HB := Lib.hid (HB.out.trans (HbB.out.mono HB.out.size))
  refine stepS_call (o := ⟨_, _, _, _, _, _⟩) rfl (by rfl) (fun K hK => ?_)
  go_simp
  rw [HGB.out.1, HGB.out.2]
  refine hK _ _ (Turn.ofBelow HbB.out) ?_
  clear hK K HGB HbB
  (refine wpGs_read (o := ⟨_, _, _, _, _, _⟩) (v := ?_) rfl (by rfl) ?_ ?_; rotate_left; (intro w' hw'; go_simp; with_reducible rfl); simp only [Act.put, List.setIfInBounds_toArray, List.set_cons_zero, List.set_cons_succ])
  refine wpGs_done ?_
  obtain ⟨W5, hW5⟩ : ∃ W, (WB).drew = W := ⟨_, rfl⟩
  have hdW5 : Below (WB).heap.size (WB) W5 := by rw [← hW5]; exact (Below.refl _ _).drew
  replace FA := Lib.hid (FA.out.ext hdW5)
  replace FB := Lib.hid (FB.out.ext hdW5)
  replace HB := Lib.hid (HB.out.trans (hdW5.mono HB.out.size))
  have HW5 := Lib.hid hW5
  clear hW5 hdW5
  have q1 : ∀ w', Turn (fun _ => False) W5 w' → w'.cell? ⟨b, 2, none⟩ = some (.slice (some ⟨g, o, none⟩) n c) := fun w' t => ((HN.out.ext HB.out).ext (t.below (Nat.le_refl _) (fun _ h => h.elim))).c2
  have lk : g < w.heap.size := block_lt_of_cell HK.out
  have q3 : ∀ w', Turn (fun _ => False) W5 w' → w'.cell? ⟨g, o + a, none⟩ = some (.string y) := fun w' t => by
    have hx := HB.out.trans (t.below HB.out.size (fun _ h => h.elim))
    rw [hx.cell (p := ⟨g, o + a, none⟩) lk]; exact HK.out
  clear lk HK
  go_wp2_with fail
  refine wp_region_gs (F := fun _ => False) (.rd 0 (.rd 1 (.rd 3 (.rd 4 (.rd 5 (.rd 6 (.rd 7 (.rd 8 (.rd 9 (.two 2 (.rd 11 (.call 10 (.rd 12 .done))) 10 (.call 2 (.rd 11 (.rd 12 .done))))))))))))) (by kernel_rfl) (by kernel_rfl) (by kernel_rfl) (by kernel_rfl) (fun _ _ _ _ _ h => h) ?_
  rw [HW5.out]
  iterate 9 (refine wpGs_read (o := ⟨_, _, _, _, _, _⟩) (v := ?_) rfl (by rfl) ?_ ?_; rotate_left; (intro w' hw'; go_simp; with_reducible rfl); simp only [Act.put, List.setIfInBounds_toArray, List.set_cons_zero, List.set_cons_succ])
  clear q1 q3 HW5 HN
  refine ⟨?_, ?_⟩
  · obtain ⟨gC, WC, hgC, hwC, hcC, hbC⟩ := alloc_lit W5 25 #[pt gA, pt gB]
    have HGC := Lib.hid (And.intro hgC hwC)
    have HbC := Lib.hid hbC
    have FC : Hid (ES ptrE WC (some ⟨gC, 0, none⟩) [gA, gB]) := ES.lit (E := ptrE) (l := [gA, gB]) hcC
    clear hgC hwC hbC hcC
    replace FA := Lib.hid (FA.out.ext HbC.out)
    replace FB := Lib.hid (FB.out.ext HbC.out)
    replace HB := Lib.hid (HB.out.trans (HbC.out.mono HB.out.size))
    refine stepS_call (o := ⟨_, _, _, _, _, _⟩) rfl (by rfl) (fun K hK => ?_)
    go_simp
    rw [HGC.out.1, HGC.out.2]
    refine hK _ _ (Turn.ofBelow HbC.out) ?_
    clear hK K HGC HbC
    (refine wpGs_read (o := ⟨_, _, _, _, _, _⟩) (v := ?_) rfl (by rfl) ?_ ?_; rotate_left; (intro w' hw'; go_simp; with_reducible rfl); simp only [Act.put, List.setIfInBounds_toArray, List.set_cons_zero, List.set_cons_succ])
    obtain ⟨gK, WK, hgK, hwK, hcK, hbK⟩ := alloc_lit WC 9 #[.string y]
    have HGK := Lib.hid (And.intro hgK hwK)
    have HbK := Lib.hid hbK
    have FK : Hid (ES strE WK (some ⟨gK, 0, none⟩) [y]) := ES.lit (E := strE) (l := [y]) hcK
    clear hgK hwK hbK hcK
    replace FA := Lib.hid (FA.out.ext HbK.out)
    replace FB := Lib.hid (FB.out.ext HbK.out)
    replace FC := Lib.hid (FC.out.below HbK.out (Nat.le_refl _))
    replace HB := Lib.hid (HB.out.trans (HbK.out.mono HB.out.size))
    refine stepS_call (o := ⟨_, _, _, _, _, _⟩) rfl (by rfl) (fun K hK => ?_)
    go_simp
    rw [HGK.out.1, HGK.out.2]
    refine hK _ _ (Turn.ofBelow HbK.out) ?_
    clear hK K HGK HbK
    (refine wpGs_read (o := ⟨_, _, _, _, _, _⟩) (v := ?_) rfl (by rfl) ?_ ?_; rotate_left; (intro w' hw'; go_simp; with_reducible rfl); simp only [Act.put, List.setIfInBounds_toArray, List.set_cons_zero, List.set_cons_succ])
    refine wpGs_done ?_
    go_wp2_with fail
    go_ret2
    have e1 : (ks.take a).length = a := by rw [List.length_take, Hn.out.1]; omega
    have e2 : (ps.take r).length = r := by rw [List.length_take, Hn.out.2.1]; omega
    have e3 : (ks.drop r).length = n - r := by rw [List.length_drop, Hn.out.1]
    have e4 : (ps.drop r).length = m - r := by rw [List.length_drop, Hn.out.2.1]
    refine ⟨a, gA, gB, _, _, rfl, ⟨_, _, rfl, FC.out, (fun h => by cases h), Nat.le_refl _, by unfold maxLen; simp⟩, ⟨_, _, rfl, by rw [HY.out]; exact FK.out, (fun h => by cases h), Nat.le_refl _, by unfold maxLen; simp⟩, ?_, ?_, Hp.out.1, Hp.out.2.1, Hp.out.2.2.1, Hp.out.2.2.2, HB.out⟩
    · rw [← Hn.out.2.2]; exact ⟨_, _, FA.out, ⟨_, _, by rw [e1], HS1.out.1.below HB.out (Nat.le_refl _), (fun h => by cases h), by rw [e1]; omega, by unfold maxLen; omega⟩, ⟨_, _, by rw [e2], HS1.out.2.below HB.out (Nat.le_refl _), (fun h => by cases h), by rw [e2]; omega, by unfold maxLen; omega⟩⟩
    · rw [← Hn.out.2.2]; exact ⟨_, _, FB.out, ⟨_, _, by rw [e3], HS2.out.1.below HB.out (Nat.le_refl _), (fun h => by cases h), by rw [e3]; omega, by unfold maxLen; omega⟩, ⟨_, _, by rw [e4], HS2.out.2.below HB.out (Nat.le_refl _), (fun h => by cases h), by rw [e4]; omega, by unfold maxLen; omega⟩⟩
  · obtain ⟨gK, WK, hgK, hwK, hcK, hbK⟩ := alloc_lit W5 9 #[.string y]
    have HGK := Lib.hid (And.intro hgK hwK)
    have HbK := Lib.hid hbK
    have FK : Hid (ES strE WK (some ⟨gK, 0, none⟩) [y]) := ES.lit (E := strE) (l := [y]) hcK
    clear hgK hwK hbK hcK
    replace FA := Lib.hid (FA.out.ext HbK.out)
    replace FB := Lib.hid (FB.out.ext HbK.out)
    replace HB := Lib.hid (HB.out.trans (HbK.out.mono HB.out.size))
    refine stepS_call (o := ⟨_, _, _, _, _, _⟩) rfl (by rfl) (fun K hK => ?_)
    go_simp
    rw [HGK.out.1, HGK.out.2]
    refine hK _ _ (Turn.ofBelow HbK.out) ?_
    clear hK K HGK HbK
    obtain ⟨gC, WC, hgC, hwC, hcC, hbC⟩ := alloc_lit WK 25 #[pt gA, pt gB]
    have HGC := Lib.hid (And.intro hgC hwC)
    have HbC := Lib.hid hbC
    have FC : Hid (ES ptrE WC (some ⟨gC, 0, none⟩) [gA, gB]) := ES.lit (E := ptrE) (l := [gA, gB]) hcC
    clear hgC hwC hbC hcC
    replace FA := Lib.hid (FA.out.ext HbC.out)
    replace FB := Lib.hid (FB.out.ext HbC.out)
    replace FK := Lib.hid (FK.out.below HbC.out (Nat.le_refl _))
    replace HB := Lib.hid (HB.out.trans (HbC.out.mono HB.out.size))
    refine stepS_call (o := ⟨_, _, _, _, _, _⟩) rfl (by rfl) (fun K hK => ?_)
    go_simp
    rw [HGC.out.1, HGC.out.2]
    refine hK _ _ (Turn.ofBelow HbC.out) ?_
    clear hK K HGC HbC
    (refine wpGs_read (o := ⟨_, _, _, _, _, _⟩) (v := ?_) rfl (by rfl) ?_ ?_; rotate_left; (intro w' hw'; go_simp; with_reducible rfl); simp only [Act.put, List.setIfInBounds_toArray, List.set_cons_zero, List.set_cons_succ])
    (refine wpGs_read (o := ⟨_, _, _, _, _, _⟩) (v := ?_) rfl (by rfl) ?_ ?_; rotate_left; (intro w' hw'; go_simp; with_reducible rfl); simp only [Act.put, List.setIfInBounds_toArray, List.set_cons_zero, List.set_cons_succ])
    refine wpGs_done ?_
    go_wp2_with fail
    go_ret2
    have e1 : (ks.take a).length = a := by rw [List.length_take, Hn.out.1]; omega
    have e2 : (ps.take r).length = r := by rw [List.length_take, Hn.out.2.1]; omega
    have e3 : (ks.drop r).length = n - r := by rw [List.length_drop, Hn.out.1]
    have e4 : (ps.drop r).length = m - r := by rw [List.length_drop, Hn.out.2.1]
    refine ⟨a, gA, gB, _, _, rfl, ⟨_, _, rfl, FC.out, (fun h => by cases h), Nat.le_refl _, by unfold maxLen; simp⟩, ⟨_, _, rfl, by rw [HY.out]; exact FK.out, (fun h => by cases h), Nat.le_refl _, by unfold maxLen; simp⟩, ?_, ?_, Hp.out.1, Hp.out.2.1, Hp.out.2.2.1, Hp.out.2.2.2, HB.out⟩
    · rw [← Hn.out.2.2]; exact ⟨_, _, FA.out, ⟨_, _, by rw [e1], HS1.out.1.below HB.out (Nat.le_refl _), (fun h => by cases h), by rw [e1]; omega, by unfold maxLen; omega⟩, ⟨_, _, by rw [e2], HS1.out.2.below HB.out (Nat.le_refl _), (fun h => by cases h), by rw [e2]; omega, by unfold maxLen; omega⟩⟩
    · rw [← Hn.out.2.2]; exact ⟨_, _, FB.out, ⟨_, _, by rw [e3], HS2.out.1.below HB.out (Nat.le_refl _), (fun h => by cases h), by rw [e3]; omega, by unfold maxLen; omega⟩, ⟨_, _, by rw [e4], HS2.out.2.below HB.out (Nat.le_refl _), (fun h => by cases h), by rw [e4]; omega, by unfold maxLen; omega⟩⟩
end Go.Proofs.YtbgkjniagedcnaaGreatDoor
