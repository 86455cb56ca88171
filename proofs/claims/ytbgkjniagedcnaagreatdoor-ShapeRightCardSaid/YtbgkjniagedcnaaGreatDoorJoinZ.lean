/-
  tree's joined.
-/
import Derived.Test.YtbgkjniagedcnaaGreatDoorNode2Z
import Derived.Test.YtbgkjniagedcnaaGreatDoorCatEZ
import Derived.Test.YtbgkjniagedcnaaGreatDoorGsZ
namespace Go.Proofs.YtbgkjniagedcnaaGreatDoor
open Go Go.RowKit

theorem alloc_node (W : World) (vc vk vp : Value) : ∃ g W', W.heap.size = g ∧ W.alloc (.cells #[.int .i64 0, vc, vk, vp] NT) = W' ∧ NP W' g 0 vc vk vp ∧ Below W.heap.size W W' :=
  ⟨_, _, rfl, rfl, NP.new W 0 vc vk vp, (Below.refl _ _).alloc (Nat.le_refl _) _⟩
theorem alloc_cells (W : World) (T : TypeId) (vs : Array Value) : ∃ g W', W.heap.size = g ∧ W.alloc (.cells vs T) = W' ∧ (∀ i : Nat, W'.cell? ⟨g, i, none⟩ = vs[i]?) ∧ Below W.heap.size W W' :=
  ⟨_, _, rfl, rfl, fun i => World.cell?_alloc_new W _ _ i, (Below.refl _ _).alloc (Nat.le_refl _) _⟩
set_option maxRecDepth 100000 in
theorem joined_leaf (b1 b2 : Nat) (key : ByteArray) (e1 e2 : List En) (w : World) (h1 : Leaf w b1 e1) (h2 : Leaf w b2 e2) (hl : e1.length + e2.length ≤ 1000000) :
    Calls Tryz.prog 90 #[pt b1, .string key, pt b2] w fun e w' => ∃ b, e = .returned (pt b) ∧ LeafP w' b 0 (e1 ++ e2) ∧ Below w.heap.size w w' := by
  obtain ⟨vc1, nb1, cv1⟩ := h1
  obtain ⟨x1, ⟨a1, c1, rfl, s1, z1, _⟩, r1⟩ := cv1.raw
  obtain ⟨vc2, nb2, cv2⟩ := h2
  obtain ⟨x2, ⟨a2, c2, rfl, s2, z2, _⟩, r2⟩ := cv2.raw
  rw [← r1.len, ← r2.len] at hl
  have hi := Lib.hid (isLeaf_yes b1 _ _ w nb1)
  obtain ⟨W, hW⟩ : ∃ W, w.drew = W := ⟨_, rfl⟩
  have hbw : Below w.heap.size w W := by rw [← hW]; exact (Below.refl _ _).drew
  have q0 : ∀ w', Ext W w' → w'.cell? ⟨b1, 1, none⟩ = some (.slice a1 x1.length c1) := fun w' hw => ((nb1.ext (hbw)).ext hw).c1
  have q1 : ∀ w', Ext W w' → w'.cell? ⟨b2, 1, none⟩ = some (.slice a2 x2.length c2) := fun w' hw => ((nb2.ext (hbw)).ext hw).c1
  obtain ⟨g3, W3, hg3, hW3, hc3, hb3⟩ := alloc_cells W 75 #[.slice a1 x1.length c1, .slice a2 x2.length c2]
  have hb03 : Below w.heap.size w W3 := hbw.trans (hb3.mono hbw.size)
  have hp : PartsE celE W3 g3 [x1, x2] := fun i hi => by
    rcases i with _ | _ | i
    · exact ⟨a1, c1, hc3 0, s1.below hb03 (Nat.le_refl _), z1⟩
    · exact ⟨a2, c2, hc3 1, s2.below hb03 (Nat.le_refl _), z2⟩
    · exact absurd hi (by simp)
  have hcat := concatE_any g3 2 2 [x1, x2] rfl W3 hp (by simp; omega) (by omega)
  rw [show [x1, x2].flatten = x1 ++ x2 by simp] at hcat
  have Hcat := Lib.hid hcat
  have HR := Lib.hid (And.intro r1 r2)
  have Hb03 := Lib.hid hb03
  have Hb3 := Lib.hid hb3
  have HW := Lib.hid hW
  have HW3 := Lib.hid (And.intro hg3 hW3)
  clear r1 r2 cv1 cv2 hcat hb03 hp hc3 s1 s2 z1 z2 nb1 nb2 hW hg3 hW3 hb3 hbw
  generalize x1.length = n1 at *
  generalize x2.length = n2 at *
  go_enter Tryz.func90, Tryz.ntmps90
  go_wp2_with fail
  refine hi.out.mono ?_
  rintro e w' ⟨rfl, rfl⟩
  go_wp2_with fail
  refine wp_region_gr [(0, true), (1, true), (2, true), (3, true), (4, true), (5, true), (6, true), (7, true), (8, false), (9, false), (10, true), (11, false), (12, true)] (by kernel_rfl) (by kernel_rfl) (by kernel_rfl) (by kernel_rfl) (fun _ _ _ _ _ h => h) ?_
  rw [HW.out]
  iterate 8 (refine wpGr_read (o := ⟨_, _, _, _, _, _⟩) (v := ?_) rfl (by rfl) ?_ ?_; rotate_left; (intro w' hw'; go_simp; with_reducible rfl); simp only [Act.put, List.setIfInBounds_toArray, List.set_cons_zero, List.set_cons_succ])
  refine wpGr_call (o := ⟨_, _, _, _, _, _⟩) rfl (by rfl) (fun K hK => ?_)
  go_simp
  rw [HW3.out.1, HW3.out.2]
  refine hK _ _ Hb3.out ?_
  clear hK K
  refine wpGr_call (o := ⟨_, _, _, _, _, _⟩) rfl (by rfl) (fun K hK => ?_)
  go_simp
  refine Hcat.out.mono ?_
  rintro e w4 ⟨v, rfl, ⟨a4, c4, rfl, s4, r4⟩, hb4⟩
  refine hK _ _ hb4 ?_
  clear hK K
  have Hb4 := Lib.hid (Hb03.out.trans (hb4.mono Hb03.out.size))
  have Hv := Lib.hid (And.intro s4 r4)
  obtain ⟨N, hN⟩ : ∃ N, (x1 ++ x2).length = N := ⟨_, rfl⟩
  have HN := Lib.hid hN
  rw [hN]
  clear s4 r4 hb4 hN
  (refine wpGr_read (o := ⟨_, _, _, _, _, _⟩) (v := ?_) rfl (by rfl) ?_ ?_; rotate_left; (intro w' hw'; go_simp; with_reducible rfl); simp only [Act.put, List.setIfInBounds_toArray, List.set_cons_zero, List.set_cons_succ])
  obtain ⟨g5, W5, hg5, hW5, hnb5, hb5⟩ := alloc_node w4 (.slice a4 N c4) nilS nilS
  have Hnb := Lib.hid hnb5
  have Hb5 := Lib.hid hb5
  have HW5 := Lib.hid (And.intro hg5 hW5)
  clear hnb5 hb5 hg5 hW5
  refine wpGr_call (o := ⟨_, _, _, _, _, _⟩) rfl (by rfl) (fun K hK => ?_)
  go_simp
  rw [HW5.out.1, HW5.out.2]
  refine hK _ _ Hb5.out ?_
  clear hK K
  (refine wpGr_read (o := ⟨_, _, _, _, _, _⟩) (v := ?_) rfl (by rfl) ?_ ?_; rotate_left; (intro w' hw'; go_simp; with_reducible rfl); simp only [Act.put, List.setIfInBounds_toArray, List.set_cons_zero, List.set_cons_succ])
  refine wpGr_done ?_
  go_wp2_with fail
  go_ret
  exact ⟨g5, rfl, ⟨_, Hnb.out, CV.of ⟨a4, c4, by rw [HN.out], Hv.out.1.below Hb5.out (Nat.le_refl _), Hv.out.2⟩ ((HR.out.1.app HR.out.2).below (Hb4.out.trans (Hb5.out.mono Hb4.out.size)) (Nat.le_refl _))⟩, Hb4.out.trans (Hb5.out.mono Hb4.out.size)⟩
set_option maxRecDepth 100000 in
theorem joined_bran (b1 b2 : Nat) (key : ByteArray) (ks1 ks2 : List ByteArray) (ps1 ps2 : List Nat) (w : World) (h1 : Bran w b1 ks1 ps1) (h2 : Bran w b2 ks2 ps2) (h0 : 0 < ps1.length) (hl : ks1.length + ks2.length ≤ 100000) (hl2 : ps1.length + ps2.length ≤ 100000) :
    Calls Tryz.prog 90 #[pt b1, .string key, pt b2] w fun e w' => ∃ b, e = .returned (pt b) ∧ BranP w' b 0 (ks1 ++ key :: ks2) (ps1 ++ ps2) ∧ Below w.heap.size w w' := by
  obtain ⟨vk1, vp1, nb1, ⟨a1, c1, rfl, s1, z1, _⟩, ⟨a2, c2, rfl, s2, z2, _⟩⟩ := h1
  obtain ⟨vk2, vp2, nb2, ⟨a3, c3, rfl, s3, z3, _⟩, ⟨a4, c4, rfl, s4, z4, _⟩⟩ := h2
  have hi := Lib.hid (isLeaf_no b1 _ _ _ _ _ w nb1 h0)
  obtain ⟨W, hW⟩ : ∃ W, w.drew = W := ⟨_, rfl⟩
  have HB : Hid (Below w.heap.size w W) := by rw [← hW]; exact (Below.refl _ _).drew
  have q1 : ∀ w', Turn (fun _ => False) W w' → w'.cell? ⟨b1, 2, none⟩ = some (.slice a1 ks1.length c1) := fun w' t => ((nb1.ext HB.out).ext (t.below (Nat.le_refl _) (fun _ h => h.elim))).c2
  have q2 : ∀ w', Turn (fun _ => False) W w' → w'.cell? ⟨b1, 3, none⟩ = some (.slice a2 ps1.length c2) := fun w' t => ((nb1.ext HB.out).ext (t.below (Nat.le_refl _) (fun _ h => h.elim))).c3
  have q3 : ∀ w', Turn (fun _ => False) W w' → w'.cell? ⟨b2, 2, none⟩ = some (.slice a3 ks2.length c3) := fun w' t => ((nb2.ext HB.out).ext (t.below (Nat.le_refl _) (fun _ h => h.elim))).c2
  have q4 : ∀ w', Turn (fun _ => False) W w' → w'.cell? ⟨b2, 3, none⟩ = some (.slice a4 ps2.length c4) := fun w' t => ((nb2.ext HB.out).ext (t.below (Nat.le_refl _) (fun _ h => h.elim))).c3
  have S1 := Lib.hid s1
  have S2 := Lib.hid s2
  have S3 := Lib.hid s3
  have S4 := Lib.hid s4
  have Z := Lib.hid (And.intro (And.intro z1 z2) (And.intro z3 z4))
  have HW := Lib.hid hW
  obtain ⟨N, hN⟩ : ∃ N, (ks1 ++ key :: ks2).length = N := ⟨_, rfl⟩
  obtain ⟨M, hM⟩ : ∃ M, (ps1 ++ ps2).length = M := ⟨_, rfl⟩
  have HN := Lib.hid (And.intro hN hM)
  obtain ⟨n1, hn1⟩ : ∃ n, ks1.length = n := ⟨_, rfl⟩
  obtain ⟨n2, hn2⟩ : ∃ n, ps1.length = n := ⟨_, rfl⟩
  obtain ⟨n3, hn3⟩ : ∃ n, ks2.length = n := ⟨_, rfl⟩
  obtain ⟨n4, hn4⟩ : ∃ n, ps2.length = n := ⟨_, rfl⟩
  have Hn := Lib.hid (And.intro (And.intro hn1 hn2) (And.intro hn3 hn4))
  rw [hn1] at q1
  rw [hn2] at q2
  rw [hn3] at q3
  rw [hn4] at q4
  have Hl : Hid (ks1.length + ks2.length ≤ 100000 ∧ ps1.length + ps2.length ≤ 100000) := ⟨hl, hl2⟩
  clear s1 s2 s3 s4 z1 z2 z3 z4 nb1 nb2 hW hN hM hn1 hn2 hn3 hn4 h0 hl hl2
  go_enter Tryz.func90, Tryz.ntmps90
  go_wp2_with fail
  refine hi.out.mono ?_
  rintro e w' ⟨rfl, rfl⟩
  clear hi
  go_wp2_with fail
  refine wp_region_gs (F := fun _ => False) (.rd 0 (.rd 1 (.rd 2 (.rd 3 (.rd 4 (.rd 6 (.rd 7 (.rd 8 (.rd 9 (.rd 12 (.rd 13 (.rd 14 (.rd 15 (.rd 16 (.rd 17 (.rd 18 (.rd 19 (.two 5 (.two 10 (.two 11 (.call 20 (.call 21 (.rd 22 (.call 23 (.rd 24 .done))))) 20 (.call 11 (.call 21 (.rd 22 (.call 23 (.rd 24 .done)))))) 20 (.call 10 (.call 11 (.call 21 (.rd 22 (.call 23 (.rd 24 .done))))))) 20 (.call 5 (.call 10 (.call 11 (.call 21 (.rd 22 (.call 23 (.rd 24 .done))))))))))))))))))))))))) (by kernel_rfl) (by kernel_rfl) (by kernel_rfl) (by kernel_rfl) (fun _ _ _ _ _ h => h) ?_
  rw [HW.out]
  iterate 17 (refine wpGs_read (o := ⟨_, _, _, _, _, _⟩) (v := ?_) rfl (by rfl) ?_ ?_; rotate_left; (intro w' hw'; go_simp; with_reducible rfl); simp only [Act.put, List.setIfInBounds_toArray, List.set_cons_zero, List.set_cons_succ])
  clear q1 q2 q3 q4 HW
  refine ⟨?_, ?_⟩
  · obtain ⟨gA, WA, hgA, hwA, hcA, hbA⟩ := alloc_lit W 9 #[.string key]
    have HGA := Lib.hid (And.intro hgA hwA)
    have HbA := Lib.hid hbA
    have HcA := Lib.hid hcA
    clear hgA hwA hcA hbA
    replace HB := Lib.hid (HB.out.trans (HbA.out.mono HB.out.size))
    have FA : Hid (ES strE WA (some ⟨gA, 0, none⟩) [key]) := ES.lit (E := strE) (l := [key]) HcA.out
    refine stepS_call (o := ⟨_, _, _, _, _, _⟩) rfl (by rfl) (fun K hK => ?_)
    go_simp
    rw [HGA.out.1, HGA.out.2]
    refine hK _ _ (Turn.ofBelow HbA.out) ?_
    clear hK K HGA HbA HcA
    refine ⟨?_, ?_⟩
    · obtain ⟨gB, WB, hgB, hwB, hcB, hbB⟩ := alloc_cells WA 73 #[.slice a1 n1 c1, .slice (some ⟨gA, 0, none⟩) 1 1, .slice a3 n3 c3]
      have HGB := Lib.hid (And.intro hgB hwB)
      have HbB := Lib.hid hbB
      have HcB := Lib.hid hcB
      clear hgB hwB hcB hbB
      replace FA := Lib.hid (FA.out.below HbB.out (Nat.le_refl _))
      replace HB := Lib.hid (HB.out.trans (HbB.out.mono HB.out.size))
      have FB : Hid (PartsE strE WB gB [ks1, [key], ks2]) := fun i hi => by
        rcases i with _ | _ | _ | i
        · exact ⟨a1, c1, by rw [HcB.out]; show some (Value.slice a1 n1 c1) = some (Value.slice a1 ks1.length c1); rw [Hn.out.1.1], S1.out.below HB.out (Nat.le_refl _), Z.out.1.1⟩
        · exact ⟨some ⟨gA, 0, none⟩, 1, by rw [HcB.out]; rfl, FA.out, fun h => by cases h⟩
        · exact ⟨a3, c3, by rw [HcB.out]; show some (Value.slice a3 n3 c3) = some (Value.slice a3 ks2.length c3); rw [Hn.out.2.1], S3.out.below HB.out (Nat.le_refl _), Z.out.2.1⟩
        · exact absurd hi (by simp)
      refine stepS_call (o := ⟨_, _, _, _, _, _⟩) rfl (by rfl) (fun K hK => ?_)
      go_simp
      rw [HGB.out.1, HGB.out.2]
      refine hK _ _ (Turn.ofBelow HbB.out) ?_
      clear hK K HGB HbB HcB
      refine ⟨?_, ?_⟩
      · have hcat := concatS_any gB 3 3 [ks1, [key], ks2] rfl WB FB.out (by have := Hl.out; simp; omega) (by omega)
        rw [show [ks1, [key], ks2].flatten = ks1 ++ key :: ks2 by simp] at hcat
        have Hcat := Lib.hid hcat
        clear hcat
        refine stepS_call (o := ⟨_, _, _, _, _, _⟩) rfl (by rfl) (fun K hK => ?_)
        go_simp
        refine Hcat.out.mono ?_
        rintro e WC ⟨v, rfl, ⟨xC, yC, rfl, sC, rC⟩, hbC⟩
        refine hK _ _ (Turn.ofBelow hbC) ?_
        clear hK K Hcat
        rw [HN.out.1] at rC ⊢
        have HbC := Lib.hid hbC
        have FC := Lib.hid sC
        have RC := Lib.hid rC
        clear hbC sC rC
        replace FA := Lib.hid (FA.out.below HbC.out (Nat.le_refl _))
        replace HB := Lib.hid (HB.out.trans (HbC.out.mono HB.out.size))
        clear HbC FB
        obtain ⟨gD, WD, hgD, hwD, hcD, hbD⟩ := alloc_cells WC 76 #[.slice a2 n2 c2, .slice a4 n4 c4]
        have HGD := Lib.hid (And.intro hgD hwD)
        have HbD := Lib.hid hbD
        have HcD := Lib.hid hcD
        clear hgD hwD hcD hbD
        replace FA := Lib.hid (FA.out.below HbD.out (Nat.le_refl _))
        replace FC := Lib.hid (FC.out.below HbD.out (Nat.le_refl _))
        replace HB := Lib.hid (HB.out.trans (HbD.out.mono HB.out.size))
        have FD : Hid (PartsE ptrE WD gD [ps1, ps2]) := fun i hi => by
          rcases i with _ | _ | i
          · exact ⟨a2, c2, by rw [HcD.out]; show some (Value.slice a2 n2 c2) = some (Value.slice a2 ps1.length c2); rw [Hn.out.1.2], S2.out.below HB.out (Nat.le_refl _), Z.out.1.2⟩
          · exact ⟨a4, c4, by rw [HcD.out]; show some (Value.slice a4 n4 c4) = some (Value.slice a4 ps2.length c4); rw [Hn.out.2.2], S4.out.below HB.out (Nat.le_refl _), Z.out.2.2⟩
          · exact absurd hi (by simp)
        refine stepS_call (o := ⟨_, _, _, _, _, _⟩) rfl (by rfl) (fun K hK => ?_)
        go_simp
        rw [HGD.out.1, HGD.out.2]
        refine hK _ _ (Turn.ofBelow HbD.out) ?_
        clear hK K HGD HbD HcD
        have hcat := concatP_any gD 2 2 [ps1, ps2] rfl WD FD.out (by have := Hl.out; simp; omega) (by omega)
        rw [show [ps1, ps2].flatten = ps1 ++ ps2 by simp] at hcat
        have Hcat := Lib.hid hcat
        clear hcat
        refine stepS_call (o := ⟨_, _, _, _, _, _⟩) rfl (by rfl) (fun K hK => ?_)
        go_simp
        refine Hcat.out.mono ?_
        rintro e WE ⟨v, rfl, ⟨xE, yE, rfl, sE, rE⟩, hbE⟩
        refine hK _ _ (Turn.ofBelow hbE) ?_
        clear hK K Hcat
        rw [HN.out.2] at rE ⊢
        have HbE := Lib.hid hbE
        have FE := Lib.hid sE
        have RE := Lib.hid rE
        clear hbE sE rE
        replace FA := Lib.hid (FA.out.below HbE.out (Nat.le_refl _))
        replace FC := Lib.hid (FC.out.below HbE.out (Nat.le_refl _))
        replace HB := Lib.hid (HB.out.trans (HbE.out.mono HB.out.size))
        clear HbE FD
        (refine wpGs_read (o := ⟨_, _, _, _, _, _⟩) (v := ?_) rfl (by rfl) ?_ ?_; rotate_left; (intro w' hw'; go_simp; with_reducible rfl); simp only [Act.put, List.setIfInBounds_toArray, List.set_cons_zero, List.set_cons_succ])
        obtain ⟨gN, WN, hgN, hwN, hnb, hbN⟩ := alloc_node WE nilS (.slice xC N yC) (.slice xE M yE)
        have HGN := Lib.hid (And.intro hgN hwN)
        have HbN := Lib.hid hbN
        have Hnb := Lib.hid hnb
        clear hgN hwN hbN hnb
        replace FA := Lib.hid (FA.out.below HbN.out (Nat.le_refl _))
        replace FC := Lib.hid (FC.out.below HbN.out (Nat.le_refl _))
        replace FE := Lib.hid (FE.out.below HbN.out (Nat.le_refl _))
        replace HB := Lib.hid (HB.out.trans (HbN.out.mono HB.out.size))
        refine stepS_call (o := ⟨_, _, _, _, _, _⟩) rfl (by rfl) (fun K hK => ?_)
        go_simp
        rw [HGN.out.1, HGN.out.2]
        refine hK _ _ (Turn.ofBelow HbN.out) ?_
        clear hK K HGN HbN
        (refine wpGs_read (o := ⟨_, _, _, _, _, _⟩) (v := ?_) rfl (by rfl) ?_ ?_; rotate_left; (intro w' hw'; go_simp; with_reducible rfl); simp only [Act.put, List.setIfInBounds_toArray, List.set_cons_zero, List.set_cons_succ])
        refine wpGs_done ?_
        go_wp2_with fail
        go_ret
        exact ⟨gN, rfl, ⟨_, _, Hnb.out, ⟨xC, yC, by rw [HN.out.1], FC.out, by rw [HN.out.1]; exact RC.out⟩, ⟨xE, yE, by rw [HN.out.2], FE.out, by rw [HN.out.2]; exact RE.out⟩⟩, HB.out⟩
      · obtain ⟨gD, WD, hgD, hwD, hcD, hbD⟩ := alloc_cells WB 76 #[.slice a2 n2 c2, .slice a4 n4 c4]
        have HGD := Lib.hid (And.intro hgD hwD)
        have HbD := Lib.hid hbD
        have HcD := Lib.hid hcD
        clear hgD hwD hcD hbD
        replace FA := Lib.hid (FA.out.below HbD.out (Nat.le_refl _))
        replace FB := Lib.hid (FB.out.below HbD.out (Nat.le_refl _))
        replace HB := Lib.hid (HB.out.trans (HbD.out.mono HB.out.size))
        have FD : Hid (PartsE ptrE WD gD [ps1, ps2]) := fun i hi => by
          rcases i with _ | _ | i
          · exact ⟨a2, c2, by rw [HcD.out]; show some (Value.slice a2 n2 c2) = some (Value.slice a2 ps1.length c2); rw [Hn.out.1.2], S2.out.below HB.out (Nat.le_refl _), Z.out.1.2⟩
          · exact ⟨a4, c4, by rw [HcD.out]; show some (Value.slice a4 n4 c4) = some (Value.slice a4 ps2.length c4); rw [Hn.out.2.2], S4.out.below HB.out (Nat.le_refl _), Z.out.2.2⟩
          · exact absurd hi (by simp)
        refine stepS_call (o := ⟨_, _, _, _, _, _⟩) rfl (by rfl) (fun K hK => ?_)
        go_simp
        rw [HGD.out.1, HGD.out.2]
        refine hK _ _ (Turn.ofBelow HbD.out) ?_
        clear hK K HGD HbD HcD
        have hcat := concatS_any gB 3 3 [ks1, [key], ks2] rfl WD FB.out (by have := Hl.out; simp; omega) (by omega)
        rw [show [ks1, [key], ks2].flatten = ks1 ++ key :: ks2 by simp] at hcat
        have Hcat := Lib.hid hcat
        clear hcat
        refine stepS_call (o := ⟨_, _, _, _, _, _⟩) rfl (by rfl) (fun K hK => ?_)
        go_simp
        refine Hcat.out.mono ?_
        rintro e WC ⟨v, rfl, ⟨xC, yC, rfl, sC, rC⟩, hbC⟩
        refine hK _ _ (Turn.ofBelow hbC) ?_
        clear hK K Hcat
        rw [HN.out.1] at rC ⊢
        have HbC := Lib.hid hbC
        have FC := Lib.hid sC
        have RC := Lib.hid rC
        clear hbC sC rC
        replace FA := Lib.hid (FA.out.below HbC.out (Nat.le_refl _))
        replace FD := Lib.hid (FD.out.below HbC.out (Nat.le_refl _))
        replace HB := Lib.hid (HB.out.trans (HbC.out.mono HB.out.size))
        clear HbC FB
        have hcat := concatP_any gD 2 2 [ps1, ps2] rfl WC FD.out (by have := Hl.out; simp; omega) (by omega)
        rw [show [ps1, ps2].flatten = ps1 ++ ps2 by simp] at hcat
        have Hcat := Lib.hid hcat
        clear hcat
        refine stepS_call (o := ⟨_, _, _, _, _, _⟩) rfl (by rfl) (fun K hK => ?_)
        go_simp
        refine Hcat.out.mono ?_
        rintro e WE ⟨v, rfl, ⟨xE, yE, rfl, sE, rE⟩, hbE⟩
        refine hK _ _ (Turn.ofBelow hbE) ?_
        clear hK K Hcat
        rw [HN.out.2] at rE ⊢
        have HbE := Lib.hid hbE
        have FE := Lib.hid sE
        have RE := Lib.hid rE
        clear hbE sE rE
        replace FA := Lib.hid (FA.out.below HbE.out (Nat.le_refl _))
        replace FC := Lib.hid (FC.out.below HbE.out (Nat.le_refl _))
        replace HB := Lib.hid (HB.out.trans (HbE.out.mono HB.out.size))
        clear HbE FD
        (refine wpGs_read (o := ⟨_, _, _, _, _, _⟩) (v := ?_) rfl (by rfl) ?_ ?_; rotate_left; (intro w' hw'; go_simp; with_reducible rfl); simp only [Act.put, List.setIfInBounds_toArray, List.set_cons_zero, List.set_cons_succ])
        obtain ⟨gN, WN, hgN, hwN, hnb, hbN⟩ := alloc_node WE nilS (.slice xC N yC) (.slice xE M yE)
        have HGN := Lib.hid (And.intro hgN hwN)
        have HbN := Lib.hid hbN
        have Hnb := Lib.hid hnb
        clear hgN hwN hbN hnb
        replace FA := Lib.hid (FA.out.below HbN.out (Nat.le_refl _))
        replace FC := Lib.hid (FC.out.below HbN.out (Nat.le_refl _))
        replace FE := Lib.hid (FE.out.below HbN.out (Nat.le_refl _))
        replace HB := Lib.hid (HB.out.trans (HbN.out.mono HB.out.size))
        refine stepS_call (o := ⟨_, _, _, _, _, _⟩) rfl (by rfl) (fun K hK => ?_)
        go_simp
        rw [HGN.out.1, HGN.out.2]
        refine hK _ _ (Turn.ofBelow HbN.out) ?_
        clear hK K HGN HbN
        (refine wpGs_read (o := ⟨_, _, _, _, _, _⟩) (v := ?_) rfl (by rfl) ?_ ?_; rotate_left; (intro w' hw'; go_simp; with_reducible rfl); simp only [Act.put, List.setIfInBounds_toArray, List.set_cons_zero, List.set_cons_succ])
        refine wpGs_done ?_
        go_wp2_with fail
        go_ret
        exact ⟨gN, rfl, ⟨_, _, Hnb.out, ⟨xC, yC, by rw [HN.out.1], FC.out, by rw [HN.out.1]; exact RC.out⟩, ⟨xE, yE, by rw [HN.out.2], FE.out, by rw [HN.out.2]; exact RE.out⟩⟩, HB.out⟩
    · obtain ⟨gD, WD, hgD, hwD, hcD, hbD⟩ := alloc_cells WA 76 #[.slice a2 n2 c2, .slice a4 n4 c4]
      have HGD := Lib.hid (And.intro hgD hwD)
      have HbD := Lib.hid hbD
      have HcD := Lib.hid hcD
      clear hgD hwD hcD hbD
      replace FA := Lib.hid (FA.out.below HbD.out (Nat.le_refl _))
      replace HB := Lib.hid (HB.out.trans (HbD.out.mono HB.out.size))
      have FD : Hid (PartsE ptrE WD gD [ps1, ps2]) := fun i hi => by
        rcases i with _ | _ | i
        · exact ⟨a2, c2, by rw [HcD.out]; show some (Value.slice a2 n2 c2) = some (Value.slice a2 ps1.length c2); rw [Hn.out.1.2], S2.out.below HB.out (Nat.le_refl _), Z.out.1.2⟩
        · exact ⟨a4, c4, by rw [HcD.out]; show some (Value.slice a4 n4 c4) = some (Value.slice a4 ps2.length c4); rw [Hn.out.2.2], S4.out.below HB.out (Nat.le_refl _), Z.out.2.2⟩
        · exact absurd hi (by simp)
      refine stepS_call (o := ⟨_, _, _, _, _, _⟩) rfl (by rfl) (fun K hK => ?_)
      go_simp
      rw [HGD.out.1, HGD.out.2]
      refine hK _ _ (Turn.ofBelow HbD.out) ?_
      clear hK K HGD HbD HcD
      obtain ⟨gB, WB, hgB, hwB, hcB, hbB⟩ := alloc_cells WD 73 #[.slice a1 n1 c1, .slice (some ⟨gA, 0, none⟩) 1 1, .slice a3 n3 c3]
      have HGB := Lib.hid (And.intro hgB hwB)
      have HbB := Lib.hid hbB
      have HcB := Lib.hid hcB
      clear hgB hwB hcB hbB
      replace FA := Lib.hid (FA.out.below HbB.out (Nat.le_refl _))
      replace FD := Lib.hid (FD.out.below HbB.out (Nat.le_refl _))
      replace HB := Lib.hid (HB.out.trans (HbB.out.mono HB.out.size))
      have FB : Hid (PartsE strE WB gB [ks1, [key], ks2]) := fun i hi => by
        rcases i with _ | _ | _ | i
        · exact ⟨a1, c1, by rw [HcB.out]; show some (Value.slice a1 n1 c1) = some (Value.slice a1 ks1.length c1); rw [Hn.out.1.1], S1.out.below HB.out (Nat.le_refl _), Z.out.1.1⟩
        · exact ⟨some ⟨gA, 0, none⟩, 1, by rw [HcB.out]; rfl, FA.out, fun h => by cases h⟩
        · exact ⟨a3, c3, by rw [HcB.out]; show some (Value.slice a3 n3 c3) = some (Value.slice a3 ks2.length c3); rw [Hn.out.2.1], S3.out.below HB.out (Nat.le_refl _), Z.out.2.1⟩
        · exact absurd hi (by simp)
      refine stepS_call (o := ⟨_, _, _, _, _, _⟩) rfl (by rfl) (fun K hK => ?_)
      go_simp
      rw [HGB.out.1, HGB.out.2]
      refine hK _ _ (Turn.ofBelow HbB.out) ?_
      clear hK K HGB HbB HcB
      have hcat := concatS_any gB 3 3 [ks1, [key], ks2] rfl WB FB.out (by have := Hl.out; simp; omega) (by omega)
      rw [show [ks1, [key], ks2].flatten = ks1 ++ key :: ks2 by simp] at hcat
      have Hcat := Lib.hid hcat
      clear hcat
      refine stepS_call (o := ⟨_, _, _, _, _, _⟩) rfl (by rfl) (fun K hK => ?_)
      go_simp
      refine Hcat.out.mono ?_
      rintro e WC ⟨v, rfl, ⟨xC, yC, rfl, sC, rC⟩, hbC⟩
      refine hK _ _ (Turn.ofBelow hbC) ?_
      clear hK K Hcat
      rw [HN.out.1] at rC ⊢
      have HbC := Lib.hid hbC
      have FC := Lib.hid sC
      have RC := Lib.hid rC
      clear hbC sC rC
      replace FA := Lib.hid (FA.out.below HbC.out (Nat.le_refl _))
      replace FD := Lib.hid (FD.out.below HbC.out (Nat.le_refl _))
      replace HB := Lib.hid (HB.out.trans (HbC.out.mono HB.out.size))
      clear HbC FB
      have hcat := concatP_any gD 2 2 [ps1, ps2] rfl WC FD.out (by have := Hl.out; simp; omega) (by omega)
      rw [show [ps1, ps2].flatten = ps1 ++ ps2 by simp] at hcat
      have Hcat := Lib.hid hcat
      clear hcat
      refine stepS_call (o := ⟨_, _, _, _, _, _⟩) rfl (by rfl) (fun K hK => ?_)
      go_simp
      refine Hcat.out.mono ?_
      rintro e WE ⟨v, rfl, ⟨xE, yE, rfl, sE, rE⟩, hbE⟩
      refine hK _ _ (Turn.ofBelow hbE) ?_
      clear hK K Hcat
      rw [HN.out.2] at rE ⊢
      have HbE := Lib.hid hbE
      have FE := Lib.hid sE
      have RE := Lib.hid rE
      clear hbE sE rE
      replace FA := Lib.hid (FA.out.below HbE.out (Nat.le_refl _))
      replace FC := Lib.hid (FC.out.below HbE.out (Nat.le_refl _))
      replace HB := Lib.hid (HB.out.trans (HbE.out.mono HB.out.size))
      clear HbE FD
      (refine wpGs_read (o := ⟨_, _, _, _, _, _⟩) (v := ?_) rfl (by rfl) ?_ ?_; rotate_left; (intro w' hw'; go_simp; with_reducible rfl); simp only [Act.put, List.setIfInBounds_toArray, List.set_cons_zero, List.set_cons_succ])
      obtain ⟨gN, WN, hgN, hwN, hnb, hbN⟩ := alloc_node WE nilS (.slice xC N yC) (.slice xE M yE)
      have HGN := Lib.hid (And.intro hgN hwN)
      have HbN := Lib.hid hbN
      have Hnb := Lib.hid hnb
      clear hgN hwN hbN hnb
      replace FA := Lib.hid (FA.out.below HbN.out (Nat.le_refl _))
      replace FC := Lib.hid (FC.out.below HbN.out (Nat.le_refl _))
      replace FE := Lib.hid (FE.out.below HbN.out (Nat.le_refl _))
      replace HB := Lib.hid (HB.out.trans (HbN.out.mono HB.out.size))
      refine stepS_call (o := ⟨_, _, _, _, _, _⟩) rfl (by rfl) (fun K hK => ?_)
      go_simp
      rw [HGN.out.1, HGN.out.2]
      refine hK _ _ (Turn.ofBelow HbN.out) ?_
      clear hK K HGN HbN
      (refine wpGs_read (o := ⟨_, _, _, _, _, _⟩) (v := ?_) rfl (by rfl) ?_ ?_; rotate_left; (intro w' hw'; go_simp; with_reducible rfl); simp only [Act.put, List.setIfInBounds_toArray, List.set_cons_zero, List.set_cons_succ])
      refine wpGs_done ?_
      go_wp2_with fail
      go_ret
      exact ⟨gN, rfl, ⟨_, _, Hnb.out, ⟨xC, yC, by rw [HN.out.1], FC.out, by rw [HN.out.1]; exact RC.out⟩, ⟨xE, yE, by rw [HN.out.2], FE.out, by rw [HN.out.2]; exact RE.out⟩⟩, HB.out⟩
  · obtain ⟨gD, WD, hgD, hwD, hcD, hbD⟩ := alloc_cells W 76 #[.slice a2 n2 c2, .slice a4 n4 c4]
    have HGD := Lib.hid (And.intro hgD hwD)
    have HbD := Lib.hid hbD
    have HcD := Lib.hid hcD
    clear hgD hwD hcD hbD
    replace HB := Lib.hid (HB.out.trans (HbD.out.mono HB.out.size))
    have FD : Hid (PartsE ptrE WD gD [ps1, ps2]) := fun i hi => by
      rcases i with _ | _ | i
      · exact ⟨a2, c2, by rw [HcD.out]; show some (Value.slice a2 n2 c2) = some (Value.slice a2 ps1.length c2); rw [Hn.out.1.2], S2.out.below HB.out (Nat.le_refl _), Z.out.1.2⟩
      · exact ⟨a4, c4, by rw [HcD.out]; show some (Value.slice a4 n4 c4) = some (Value.slice a4 ps2.length c4); rw [Hn.out.2.2], S4.out.below HB.out (Nat.le_refl _), Z.out.2.2⟩
      · exact absurd hi (by simp)
    refine stepS_call (o := ⟨_, _, _, _, _, _⟩) rfl (by rfl) (fun K hK => ?_)
    go_simp
    rw [HGD.out.1, HGD.out.2]
    refine hK _ _ (Turn.ofBelow HbD.out) ?_
    clear hK K HGD HbD HcD
    obtain ⟨gA, WA, hgA, hwA, hcA, hbA⟩ := alloc_lit WD 9 #[.string key]
    have HGA := Lib.hid (And.intro hgA hwA)
    have HbA := Lib.hid hbA
    have HcA := Lib.hid hcA
    clear hgA hwA hcA hbA
    replace FD := Lib.hid (FD.out.below HbA.out (Nat.le_refl _))
    replace HB := Lib.hid (HB.out.trans (HbA.out.mono HB.out.size))
    have FA : Hid (ES strE WA (some ⟨gA, 0, none⟩) [key]) := ES.lit (E := strE) (l := [key]) HcA.out
    refine stepS_call (o := ⟨_, _, _, _, _, _⟩) rfl (by rfl) (fun K hK => ?_)
    go_simp
    rw [HGA.out.1, HGA.out.2]
    refine hK _ _ (Turn.ofBelow HbA.out) ?_
    clear hK K HGA HbA HcA
    obtain ⟨gB, WB, hgB, hwB, hcB, hbB⟩ := alloc_cells WA 73 #[.slice a1 n1 c1, .slice (some ⟨gA, 0, none⟩) 1 1, .slice a3 n3 c3]
    have HGB := Lib.hid (And.intro hgB hwB)
    have HbB := Lib.hid hbB
    have HcB := Lib.hid hcB
    clear hgB hwB hcB hbB
    replace FD := Lib.hid (FD.out.below HbB.out (Nat.le_refl _))
    replace FA := Lib.hid (FA.out.below HbB.out (Nat.le_refl _))
    replace HB := Lib.hid (HB.out.trans (HbB.out.mono HB.out.size))
    have FB : Hid (PartsE strE WB gB [ks1, [key], ks2]) := fun i hi => by
      rcases i with _ | _ | _ | i
      · exact ⟨a1, c1, by rw [HcB.out]; show some (Value.slice a1 n1 c1) = some (Value.slice a1 ks1.length c1); rw [Hn.out.1.1], S1.out.below HB.out (Nat.le_refl _), Z.out.1.1⟩
      · exact ⟨some ⟨gA, 0, none⟩, 1, by rw [HcB.out]; rfl, FA.out, fun h => by cases h⟩
      · exact ⟨a3, c3, by rw [HcB.out]; show some (Value.slice a3 n3 c3) = some (Value.slice a3 ks2.length c3); rw [Hn.out.2.1], S3.out.below HB.out (Nat.le_refl _), Z.out.2.1⟩
      · exact absurd hi (by simp)
    refine stepS_call (o := ⟨_, _, _, _, _, _⟩) rfl (by rfl) (fun K hK => ?_)
    go_simp
    rw [HGB.out.1, HGB.out.2]
    refine hK _ _ (Turn.ofBelow HbB.out) ?_
    clear hK K HGB HbB HcB
    have hcat := concatS_any gB 3 3 [ks1, [key], ks2] rfl WB FB.out (by have := Hl.out; simp; omega) (by omega)
    rw [show [ks1, [key], ks2].flatten = ks1 ++ key :: ks2 by simp] at hcat
    have Hcat := Lib.hid hcat
    clear hcat
    refine stepS_call (o := ⟨_, _, _, _, _, _⟩) rfl (by rfl) (fun K hK => ?_)
    go_simp
    refine Hcat.out.mono ?_
    rintro e WC ⟨v, rfl, ⟨xC, yC, rfl, sC, rC⟩, hbC⟩
    refine hK _ _ (Turn.ofBelow hbC) ?_
    clear hK K Hcat
    rw [HN.out.1] at rC ⊢
    have HbC := Lib.hid hbC
    have FC := Lib.hid sC
    have RC := Lib.hid rC
    clear hbC sC rC
    replace FD := Lib.hid (FD.out.below HbC.out (Nat.le_refl _))
    replace FA := Lib.hid (FA.out.below HbC.out (Nat.le_refl _))
    replace HB := Lib.hid (HB.out.trans (HbC.out.mono HB.out.size))
    clear HbC FB
    have hcat := concatP_any gD 2 2 [ps1, ps2] rfl WC FD.out (by have := Hl.out; simp; omega) (by omega)
    rw [show [ps1, ps2].flatten = ps1 ++ ps2 by simp] at hcat
    have Hcat := Lib.hid hcat
    clear hcat
    refine stepS_call (o := ⟨_, _, _, _, _, _⟩) rfl (by rfl) (fun K hK => ?_)
    go_simp
    refine Hcat.out.mono ?_
    rintro e WE ⟨v, rfl, ⟨xE, yE, rfl, sE, rE⟩, hbE⟩
    refine hK _ _ (Turn.ofBelow hbE) ?_
    clear hK K Hcat
    rw [HN.out.2] at rE ⊢
    have HbE := Lib.hid hbE
    have FE := Lib.hid sE
    have RE := Lib.hid rE
    clear hbE sE rE
    replace FA := Lib.hid (FA.out.below HbE.out (Nat.le_refl _))
    replace FC := Lib.hid (FC.out.below HbE.out (Nat.le_refl _))
    replace HB := Lib.hid (HB.out.trans (HbE.out.mono HB.out.size))
    clear HbE FD
    (refine wpGs_read (o := ⟨_, _, _, _, _, _⟩) (v := ?_) rfl (by rfl) ?_ ?_; rotate_left; (intro w' hw'; go_simp; with_reducible rfl); simp only [Act.put, List.setIfInBounds_toArray, List.set_cons_zero, List.set_cons_succ])
    obtain ⟨gN, WN, hgN, hwN, hnb, hbN⟩ := alloc_node WE nilS (.slice xC N yC) (.slice xE M yE)
    have HGN := Lib.hid (And.intro hgN hwN)
    have HbN := Lib.hid hbN
    have Hnb := Lib.hid hnb
    clear hgN hwN hbN hnb
    replace FA := Lib.hid (FA.out.below HbN.out (Nat.le_refl _))
    replace FC := Lib.hid (FC.out.below HbN.out (Nat.le_refl _))
    replace FE := Lib.hid (FE.out.below HbN.out (Nat.le_refl _))
    replace HB := Lib.hid (HB.out.trans (HbN.out.mono HB.out.size))
    refine stepS_call (o := ⟨_, _, _, _, _, _⟩) rfl (by rfl) (fun K hK => ?_)
    go_simp
    rw [HGN.out.1, HGN.out.2]
    refine hK _ _ (Turn.ofBelow HbN.out) ?_
    clear hK K HGN HbN
    (refine wpGs_read (o := ⟨_, _, _, _, _, _⟩) (v := ?_) rfl (by rfl) ?_ ?_; rotate_left; (intro w' hw'; go_simp; with_reducible rfl); simp only [Act.put, List.setIfInBounds_toArray, List.set_cons_zero, List.set_cons_succ])
    refine wpGs_done ?_
    go_wp2_with fail
    go_ret
    exact ⟨gN, rfl, ⟨_, _, Hnb.out, ⟨xC, yC, by rw [HN.out.1], FC.out, by rw [HN.out.1]; exact RC.out⟩, ⟨xE, yE, by rw [HN.out.2], FE.out, by rw [HN.out.2]; exact RE.out⟩⟩, HB.out⟩
end Go.Proofs.YtbgkjniagedcnaaGreatDoor
