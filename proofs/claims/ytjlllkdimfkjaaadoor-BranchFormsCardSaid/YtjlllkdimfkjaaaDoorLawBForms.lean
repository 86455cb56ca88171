/-
  BranchForms: the law's walk.
-/
import Derived.Test.YtjlllkdimfkjaaaDoorSure9
import Derived.Test.YtjlllkdimfkjaaaDoorForks
import Derived.Test.YtjlllkdimfkjaaaDoorRefBr2
import Derived.Test.YtjlllkdimfkjaaaDoorRefBr4
namespace Go.Proofs.YtjlllkdimfkjaaaDoor
open Go Go.RowKit

theorem errV_is (k : Nat) : NumIs (errV k) k := by
  unfold errV
  by_cases h : k = 0
  · rw [if_pos h]; exact .inl ⟨rfl, by rw [h]; rfl⟩
  · rw [if_neg h]; exact .inr rfl
theorem bool_same {P : Prop} {x y : Bool} (h : x = true ↔ P) (k : y = true ↔ P) : y = x := by
  cases x <;> cases y <;> simp_all
theorem decF_len (l : List Nat) : (decFK l).length ≤ 65536 ∧ (decFI l).length ≤ 65536 := by
  cases h : decFS l with
  | none => rw [(decF_no h).1, (decF_no h).2.1]; simp
  | some x =>
    obtain ⟨ks, is⟩ := x
    have hm := decFS_may h
    rw [(decF_yes h).1, (decF_yes h).2.1]
    have h1 := hm.2.2.2
    have h2 : ks.length ≤ 65535 := by
      unfold decFS at h
      split at h
      · cases h
      rename_i hl
      split at h
      · cases h
      rename_i ks2 ps hr
      split at h
      · cases h
        have := decR_count _ _ _ (Nat.le_refl _) hr
        rw [List.length_drop] at this
        simp only at this
        omega
      · cases h
    simp only at h1
    omega
set_option maxRecDepth 100000 in
set_option maxHeartbeats 8000000 in
theorem forms_any (a b : Option Addr) (n c m d : Nat) (ks : List ByteArray) (is : List Int) (a2 : Option Addr) (q c2 : Nat) (L : List Nat) (w : World) (hn : ks.length = n) (hm : is.length = m) (hs : TxS w a ks) (hp : PgS w b is) (hl : n ≤ 9223372036854775807) (hl2 : m ≤ 9223372036854775807)
    (hq : L.length = q) (hsb : Src w a2 L) (hz : a2 = none → c2 = 0) (hmc : q ≤ c2) (hcm : c2 ≤ maxLen) (hb8 : B8 L) (hg : Hg w) :
    Calls Tryd.prog 3 #[.agg #[.slice a n c, .slice b m d], .slice a2 q c2] w fun e w' => e = .returned (.bool true) ∧ Below w.heap.size w w' := by
  have HG := Lib.hid hg
  have Hn := Lib.hid (And.intro hn hm)
  have Hs := Lib.hid (And.intro hs hp)
  have Hq := Lib.hid hq
  have Hb := Lib.hid (And.intro hsb (And.intro hz (And.intro hmc (And.intro hcm hb8))))
  have hq63 : q ≤ 9223372036854775807 := by unfold maxLen at hcm; omega
  obtain ⟨w0, hw0⟩ : ∃ w0, w0 = w.alloc (.cells #[.slice a n c, .slice b m d] RFK) := ⟨_, rfl⟩
  have hb0 : Hid (Below w.heap.size w w0) := by rw [hw0]; exact (Below.refl _ _).alloc (Nat.le_refl _) _
  have hF0 : Hid (PB w0 w.heap.size RFK (.slice a n c) (.slice b m d)) := by rw [hw0]; exact PB.new _ _ _ _
  have hw0' := Lib.hid hw0.symm
  have hbig := Lib.hid (big_any a b n c m d ks w0 hn (hs.below hb0.out (Nat.le_refl _)) hl hl2)
  have fin : ∀ w5 : World, Hid (Below w.heap.size w w5) → Calls Tryd.prog 6 #[] w5 fun e w' => e = .returned (.bool true) ∧ Below w5.heap.size w5 w' := fun w5 h5 => sure_any w5 (HG.out.below h5.out)
  have Fin := Lib.hid fin
  have num : ∀ (wx : World) (k : Nat), Hid (Below w.heap.size w wx) → Calls Tryd.prog 11 #[errV k] wx fun e w' => e = .returned (.int .i64 (k : Int)) ∧ Below wx.heap.size wx w' := fun wx k hb => num_any (errV k) k wx (errV_is k) (HG.out.below hb.out)
  have Num := Lib.hid num
  clear hg hn hm hs hp hw0 fin num hq hsb hz hmc hcm hb8
  go_enter Tryd.func3, Tryd.ntmps3
  go_wp2_with fail
  rw [hw0'.out]
  refine hbig.out.mono ?_
  rintro e w1 ⟨D, rfl, hD, hb1⟩
  have HD := Lib.hid hD
  have hF1 := Lib.hid (hF0.out.ext hb1)
  have hB1 := Lib.hid (hb0.out.trans (hb1.mono hb0.out.size))
  clear hD hb1 hbig hF0 hb0 hw0'
  cases D with
  | true =>
    go_wp2_with fail
    refine (Fin.out w1 hB1).mono ?_
    rintro e w2 ⟨rfl, hb⟩
    have Hbx := Lib.hid (hB1.out.trans (hb.mono hB1.out.size))
    clear hb
    go_wp2
    go_ret
    exact ⟨rfl, Hbx.out⟩
  | false =>
  have hn200 : n ≤ 200 := (HD.out rfl).1
  have hm200 : m ≤ 200 := (HD.out rfl).2
  clear HD hl hl2
  by_cases hq9 : 900 < q
  · have d1 : decide (900 < (q : Int)) = true := decide_eq_true (by omega)
    have d1' : decide (900 < q) = true := decide_eq_true hq9
    go_wp2_with fail
    refine (Fin.out w1 hB1).mono ?_
    rintro e w2 ⟨rfl, hb⟩
    have Hbx := Lib.hid (hB1.out.trans (hb.mono hB1.out.size))
    clear hb
    go_wp2
    go_ret
    exact ⟨rfl, Hbx.out⟩
  have d1 : decide (900 < (q : Int)) = false := decide_eq_false (by omega)
  have d1' : decide (900 < q) = false := decide_eq_false hq9
  have k0 := hF1.out.c0
  have k1 := hF1.out.c1
  obtain ⟨w2, hw2⟩ : ∃ w2, w2 = w1.alloc (.cells #[.slice a n c, .slice b m d] FT) := ⟨_, rfl⟩
  have hb12 : Below w1.heap.size w1 w2 := by rw [hw2]; exact (Below.refl _ _).alloc (Nat.le_refl _) _
  have hX2 : Hid (PB w2 w1.heap.size FT (.slice a n c) (.slice b m d)) := by rw [hw2]; exact PB.new _ _ _ _
  have hF2 := Lib.hid (hF1.out.ext hb12)
  have hB2 := Lib.hid (hB1.out.trans (hb12.mono hB1.out.size))
  have hw2' := Lib.hid hw2.symm
  have henc := Lib.hid (brEncode_any a b n c m d ks is w2 Hn.out.1 Hn.out.2 (Hs.out.1.below hB2.out (Nat.le_refl _)) (Hs.out.2.below hB2.out (Nat.le_refl _)) (by omega) (by omega))
  have hrenc := Lib.hid (fun w' (hb : Hid (Below w.heap.size w w')) => refEncodeF_any a b n c m d ks is w' Hn.out.1 Hn.out.2 (Hs.out.1.below hb.out (Nat.le_refl _)) (Hs.out.2.below hb.out (Nat.le_refl _)) (by omega) (by omega))
  generalize encFB ks is = EB at *
  generalize encFE ks is = EE at *
  clear hb12 hw2 hF1 hB1
  go_upto_region 4 with fail
  rw [hw2'.out]
  have x0 := hX2.out.c0
  have x1 := hX2.out.c1
  clear k0 k1
  go_wp2_with fail
  refine henc.out.mono ?_
  rintro e w3 ⟨v1, rfl, hv1, hb3⟩
  have hX3 := Lib.hid (hX2.out.ext hb3)
  have hF3 := Lib.hid (hF2.out.ext hb3)
  have hB3 := Lib.hid (hB2.out.trans (hb3.mono hB2.out.size))
  have Hv1 := Lib.hid hv1
  clear hb3 henc hX2 hF2 hB2 hv1 x0 x1 hw2'
  have k0 := hF3.out.c0
  have k1 := hF3.out.c1
  go_wp2_with fail
  refine (hrenc.out w3 hB3).mono ?_
  rintro e w4 ⟨v2, rfl, hv2, hb4⟩
  have hX4 := Lib.hid (hX3.out.ext hb4)
  have hF4 := Lib.hid (hF3.out.ext hb4)
  have hB4 := Lib.hid (hB3.out.trans (hb4.mono hB3.out.size))
  replace Hv1 := Lib.hid (Hv1.out.below hb4 (Nat.le_refl _))
  have Hv2 := Lib.hid hv2
  have hdec := Lib.hid (brDecode_any a2 q c2 L w4 Hq.out (Hb.out.1.below hB4.out (Nat.le_refl _)) Hb.out.2.1 (by omega) Hb.out.2.2.2.2)
  have hrdec := Lib.hid (fun w' (hb : Hid (Below w.heap.size w w')) => refDecodeF_any a2 q c2 L w' Hq.out (Hb.out.1.below hb.out (Nat.le_refl _)) Hb.out.2.2.1 Hb.out.2.2.2.1 (by omega) Hb.out.2.2.2.2)
  have hDL := decF_len L
  generalize decFK L = DK at *
  generalize decFI L = DI at *
  generalize decFE L = DE at *
  obtain ⟨nk, hnk⟩ : ∃ x, x = DK.length := ⟨_, rfl⟩
  obtain ⟨ni, hni⟩ : ∃ x, x = DI.length := ⟨_, rfl⟩
  have hnk6 : nk ≤ 65536 := by rw [hnk]; exact hDL.1
  have hni6 : ni ≤ 65536 := by rw [hni]; exact hDL.2
  have HK := Lib.hid (And.intro hnk.symm hni.symm)
  clear hb4 hrenc hX3 hF3 hB3 hv2 k0 k1 hDL hnk hni
  go_wp2_with fail
  refine hdec.out.mono ?_
  rintro e w5 ⟨u3, v3, rfl, hu3, hv3, hb5⟩
  obtain ⟨a5, c5, rfl, ht5, _⟩ := hu3
  obtain ⟨b5, e5, rfl, hp5, _⟩ := hv3
  rw [HK.out.1, HK.out.2]
  obtain ⟨w6, hw6⟩ : ∃ w6, w6 = w5.alloc (.cells #[.slice a5 nk c5, .slice b5 ni e5] FT) := ⟨_, rfl⟩
  have hb56 : Below w5.heap.size w5 w6 := by rw [hw6]; exact (Below.refl _ _).alloc (Nat.le_refl _) _
  have hb46 : Below w4.heap.size w4 w6 := hb5.trans (hb56.mono hb5.size)
  have hY6 : Hid (PB w6 w5.heap.size FT (.slice a5 nk c5) (.slice b5 ni e5)) := by rw [hw6]; exact PB.new _ _ _ _
  have hX6 := Lib.hid (hX4.out.ext hb46)
  have hF6 := Lib.hid (hF4.out.ext hb46)
  have hB6 := Lib.hid (hB4.out.trans (hb46.mono hB4.out.size))
  replace Hv1 := Lib.hid (Hv1.out.below hb46 (Nat.le_refl _))
  replace Hv2 := Lib.hid (Hv2.out.below hb46 (Nat.le_refl _))
  have Hy := Lib.hid (And.intro (ht5.below hb56 (Nat.le_refl _)) (hp5.below hb56 (Nat.le_refl _)))
  have hw6' := Lib.hid hw6.symm
  clear hb5 hdec hw6 hb56 hb46 hX4 hF4 hB4 ht5 hp5
  go_upto_region 7 with fail
  rw [hw6'.out]
  go_wp2_with fail
  refine (hrdec.out w6 hB6).mono ?_
  rintro e w7 ⟨u4, v4, rfl, hu4, hv4, hb7⟩
  obtain ⟨a7, c7, rfl, ht7, _⟩ := hu4
  obtain ⟨b7, e7, rfl, hp7, _⟩ := hv4
  rw [HK.out.1, HK.out.2]
  obtain ⟨w8, hw8⟩ : ∃ w8, w8 = w7.alloc (.cells #[.slice a7 nk c7, .slice b7 ni e7] RFK) := ⟨_, rfl⟩
  have hb78 : Below w7.heap.size w7 w8 := by rw [hw8]; exact (Below.refl _ _).alloc (Nat.le_refl _) _
  have hb68 : Below w6.heap.size w6 w8 := hb7.trans (hb78.mono hb7.size)
  have hZ8 : Hid (PB w8 w7.heap.size RFK (.slice a7 nk c7) (.slice b7 ni e7)) := by rw [hw8]; exact PB.new _ _ _ _
  have hY8 := Lib.hid (hY6.out.ext hb68)
  have hX8 := Lib.hid (hX6.out.ext hb68)
  have hF8 := Lib.hid (hF6.out.ext hb68)
  have hB8 := Lib.hid (hB6.out.trans (hb68.mono hB6.out.size))
  replace Hv1 := Lib.hid (Hv1.out.below hb68 (Nat.le_refl _))
  replace Hv2 := Lib.hid (Hv2.out.below hb68 (Nat.le_refl _))
  replace Hy := Lib.hid (And.intro (Hy.out.1.below hb68 (Nat.le_refl _)) (Hy.out.2.below hb68 (Nat.le_refl _)))
  have Hz := Lib.hid (And.intro (ht7.below hb78 (Nat.le_refl _)) (hp7.below hb78 (Nat.le_refl _)))
  have hw8' := Lib.hid hw8.symm
  clear hb7 hrdec hw8 hb78 hb68 hX6 hF6 hB6 hY6 ht7 hp7 hw6'
  go_upto_region 8 with fail
  rw [hw8'.out]
  have hB8d : Hid (Below w.heap.size w w8.drew) := hB8.out.drew
  have dr : Below w8.heap.size w8 w8.drew := (Below.refl _ _).drew
  have hX := Lib.hid (hX8.out.ext dr)
  have hF := Lib.hid (hF8.out.ext dr)
  have hY := Lib.hid (hY8.out.ext dr)
  have hZ := Lib.hid (hZ8.out.ext dr)
  have cv1 : ∀ w', Ext w8.drew w' → (convert 26 9 v1).run Tryd.prog w' = .ok (.string (bstr EB)) w' := fun w' hw => (Hv1.out.below (dr.trans hw) (Nat.le_refl _)).conv
  have cv2 : ∀ w', Ext w8.drew w' → (convert 26 9 v2).run Tryd.prog w' = .ok (.string (bstr EB)) w' := fun w' hw => (Hv2.out.below (dr.trans hw) (Nat.le_refl _)).conv
  have HyD : Hid ((TxS w8.drew a5 DK ∧ PgS w8.drew b5 DI) ∧ (TxS w8.drew a7 DK ∧ PgS w8.drew b7 DI)) := ⟨⟨Hy.out.1.below dr (Nat.le_refl _), Hy.out.2.below dr (Nat.le_refl _)⟩, ⟨Hz.out.1.below dr (Nat.le_refl _), Hz.out.2.below dr (Nat.le_refl _)⟩⟩
  clear hX8 hF8 hY8 hZ8 Hy Hz Hv1 Hv2 hB8 dr hw8'
  generalize bstr EB = EBs at *
  go_wp2_with fail
  refine wp_region_gr [(0, true), (1, true), (2, true), (3, true), (4, true), (5, true), (6, true), (8, true), (7, false), (9, true), (10, true), (11, true), (12, true), (13, true), (14, false), (15, true), (16, true), (17, true), (19, true), (18, false), (20, true), (21, true), (22, true), (23, true), (26, true), (24, false), (25, true), (27, false), (28, true), (29, true), (30, true), (31, true), (32, true), (33, false), (34, true), (35, true), (36, false), (37, true), (38, true)] (by kernel_rfl) (by kernel_rfl) (by kernel_rfl) (by kernel_rfl) (fun _ _ _ _ _ h => h) ?_
  iterate 8 (first | (refine wpGr_read (o := ⟨_, _, _, _, _, _⟩) (v := ?_) rfl (by rfl) ?_ ?_; rotate_left; (intro w' hw'; go_simp; with_reducible rfl); simp only [Act.put, List.setIfInBounds_toArray, List.set_cons_zero, List.set_cons_succ]) | (refine wpGr_skip (o := ⟨_, _, _, _, _, _⟩) rfl (by rfl) ?_; simp only [Act.put, List.setIfInBounds_toArray, List.set_cons_zero, List.set_cons_succ]))
  clear cv1 cv2
  refine wpGr_call (o := ⟨_, _, _, _, _, _⟩) rfl (by rfl) (fun K hK => ?_)
  go_simp
  refine (Num.out w8.drew EE hB8d).mono ?_
  rintro e w9 ⟨rfl, hb9⟩
  refine hK _ _ hb9 ?_
  clear hK K
  have hB9 := Lib.hid (hB8d.out.trans (hb9.mono hB8d.out.size))
  replace hX := Lib.hid (hX.out.ext hb9)
  replace hF := Lib.hid (hF.out.ext hb9)
  replace hY := Lib.hid (hY.out.ext hb9)
  replace hZ := Lib.hid (hZ.out.ext hb9)
  have y0 : ∀ w', Ext w9 w' → w'.cell? ⟨w5.heap.size, 0, none⟩ = some (.slice a5 nk c5) := fun w' hw => (hY.out.ext hw).c0
  have y1 : ∀ w', Ext w9 w' → w'.cell? ⟨w5.heap.size, 1, none⟩ = some (.slice b5 ni e5) := fun w' hw => (hY.out.ext hw).c1
  have z0 : ∀ w', Ext w9 w' → w'.cell? ⟨w7.heap.size, 0, none⟩ = some (.slice a7 nk c7) := fun w' hw => (hZ.out.ext hw).c0
  have z1 : ∀ w', Ext w9 w' → w'.cell? ⟨w7.heap.size, 1, none⟩ = some (.slice b7 ni e7) := fun w' hw => (hZ.out.ext hw).c1
  have hif := Lib.hid (isFork_any a5 b5 a7 b7 nk c5 ni e5 c7 e7 DK DI w9 HK.out.1 HK.out.2 (HyD.out.1.1.below hb9 (Nat.le_refl _)) (HyD.out.1.2.below hb9 (Nat.le_refl _)) (HyD.out.2.1.below hb9 (Nat.le_refl _)) (HyD.out.2.2.below hb9 (Nat.le_refl _)) hnk6 hni6)
  clear hb9 hB8d HyD
  iterate 5 (first | (refine wpGr_read (o := ⟨_, _, _, _, _, _⟩) (v := ?_) rfl (by rfl) ?_ ?_; rotate_left; (intro w' hw'; go_simp; with_reducible rfl); simp only [Act.put, List.setIfInBounds_toArray, List.set_cons_zero, List.set_cons_succ]) | (refine wpGr_skip (o := ⟨_, _, _, _, _, _⟩) rfl (by rfl) ?_; simp only [Act.put, List.setIfInBounds_toArray, List.set_cons_zero, List.set_cons_succ]))
  clear y0 y1 z0 z1
  refine wpGr_call (o := ⟨_, _, _, _, _, _⟩) rfl (by rfl) (fun K hK => ?_)
  go_simp
  refine hif.out.mono ?_
  rintro e w10 ⟨rfl, hb10⟩
  refine hK _ _ hb10 ?_
  clear hK K
  have hB10 := Lib.hid (hB9.out.trans (hb10.mono hB9.out.size))
  replace hX := Lib.hid (hX.out.ext hb10)
  replace hF := Lib.hid (hF.out.ext hb10)
  clear hb10 hB9 hif hY hZ
  iterate 4 (first | (refine wpGr_read (o := ⟨_, _, _, _, _, _⟩) (v := ?_) rfl (by rfl) ?_ ?_; rotate_left; (intro w' hw'; go_simp; with_reducible rfl); simp only [Act.put, List.setIfInBounds_toArray, List.set_cons_zero, List.set_cons_succ]) | (refine wpGr_skip (o := ⟨_, _, _, _, _, _⟩) rfl (by rfl) ?_; simp only [Act.put, List.setIfInBounds_toArray, List.set_cons_zero, List.set_cons_succ]))
  refine wpGr_call (o := ⟨_, _, _, _, _, _⟩) rfl (by rfl) (fun K hK => ?_)
  go_simp
  refine (Num.out w10 DE hB10).mono ?_
  rintro e w11 ⟨rfl, hb11⟩
  refine hK _ _ hb11 ?_
  clear hK K
  have hB11 := Lib.hid (hB10.out.trans (hb11.mono hB10.out.size))
  replace hX := Lib.hid (hX.out.ext hb11)
  replace hF := Lib.hid (hF.out.ext hb11)
  clear hb11 hB10
  have x0 : ∀ w', Ext w11 w' → w'.cell? ⟨w1.heap.size, 0, none⟩ = some (.slice a n c) := fun w' hw => (hX.out.ext hw).c0
  have x1 : ∀ w', Ext w11 w' → w'.cell? ⟨w1.heap.size, 1, none⟩ = some (.slice b m d) := fun w' hw => (hX.out.ext hw).c1
  have f0 : ∀ w', Ext w11 w' → w'.cell? ⟨w.heap.size, 0, none⟩ = some (.slice a n c) := fun w' hw => (hF.out.ext hw).c0
  have f1 : ∀ w', Ext w11 w' → w'.cell? ⟨w.heap.size, 1, none⟩ = some (.slice b m d) := fun w' hw => (hF.out.ext hw).c1
  have hch := Lib.hid (brCheck_any a b n c m d ks is w11 Hn.out.1 Hn.out.2 (Hs.out.1.below hB11.out (Nat.le_refl _)) (Hs.out.2.below hB11.out (Nat.le_refl _)) (by omega) (by omega))
  iterate 5 (first | (refine wpGr_read (o := ⟨_, _, _, _, _, _⟩) (v := ?_) rfl (by rfl) ?_ ?_; rotate_left; (intro w' hw'; go_simp; with_reducible rfl); simp only [Act.put, List.setIfInBounds_toArray, List.set_cons_zero, List.set_cons_succ]) | (refine wpGr_skip (o := ⟨_, _, _, _, _, _⟩) rfl (by rfl) ?_; simp only [Act.put, List.setIfInBounds_toArray, List.set_cons_zero, List.set_cons_succ]))
  clear x0 x1 f0 f1
  refine wpGr_call (o := ⟨_, _, _, _, _, _⟩) rfl (by rfl) (fun K hK => ?_)
  go_simp
  refine hch.out.mono ?_
  rintro e w12 ⟨D1, rfl, hD1, hb12⟩
  refine hK _ _ hb12 ?_
  clear hK K
  have hB12 := Lib.hid (hB11.out.trans (hb12.mono hB11.out.size))
  have HD1 := Lib.hid hD1
  replace hX := Lib.hid (hX.out.ext hb12)
  replace hF := Lib.hid (hF.out.ext hb12)
  clear hb12 hB11 hD1 hch
  have hmy := Lib.hid (refMayF_any a b n c m d ks is w12 Hn.out.1 Hn.out.2 (Hs.out.1.below hB12.out (Nat.le_refl _)) (Hs.out.2.below hB12.out (Nat.le_refl _)) (by omega) (by omega))
  unfold chkF
  cases D1
  all_goals
    simp only [Bool.false_eq_true, if_false, if_true]
    iterate 1 (first | (refine wpGr_read (o := ⟨_, _, _, _, _, _⟩) (v := ?_) rfl (by rfl) ?_ ?_; rotate_left; (intro w' hw'; go_simp; with_reducible rfl); simp only [Act.put, List.setIfInBounds_toArray, List.set_cons_zero, List.set_cons_succ]) | (refine wpGr_skip (o := ⟨_, _, _, _, _, _⟩) rfl (by rfl) ?_; simp only [Act.put, List.setIfInBounds_toArray, List.set_cons_zero, List.set_cons_succ]))
    refine wpGr_call (o := ⟨_, _, _, _, _, _⟩) rfl (by rfl) (fun K hK => ?_)
    go_simp
    refine hmy.out.mono ?_
    rintro e w13 ⟨D2, rfl, hD2, hb13⟩
    refine hK _ _ hb13 ?_
    clear hK K
    have hB13 := Lib.hid (hB12.out.trans (hb13.mono hB12.out.size))
    have hDD := bool_same HD1.out hD2
    subst hDD
    replace hX := Lib.hid (hX.out.ext hb13)
    replace hF := Lib.hid (hF.out.ext hb13)
    clear hb13 hB12 hD2 hmy HD1
    have x0 : ∀ w', Ext w13 w' → w'.cell? ⟨w1.heap.size, 0, none⟩ = some (.slice a n c) := fun w' hw => (hX.out.ext hw).c0
    have x1 : ∀ w', Ext w13 w' → w'.cell? ⟨w1.heap.size, 1, none⟩ = some (.slice b m d) := fun w' hw => (hX.out.ext hw).c1
    have f0 : ∀ w', Ext w13 w' → w'.cell? ⟨w.heap.size, 0, none⟩ = some (.slice a n c) := fun w' hw => (hF.out.ext hw).c0
    have f1 : ∀ w', Ext w13 w' → w'.cell? ⟨w.heap.size, 1, none⟩ = some (.slice b m d) := fun w' hw => (hF.out.ext hw).c1
    have hif := Lib.hid (isFork_any a b a b n c m d c d ks is w13 Hn.out.1 Hn.out.2 (Hs.out.1.below hB13.out (Nat.le_refl _)) (Hs.out.2.below hB13.out (Nat.le_refl _)) (Hs.out.1.below hB13.out (Nat.le_refl _)) (Hs.out.2.below hB13.out (Nat.le_refl _)) (by omega) (by omega))
    iterate 5 (first | (refine wpGr_read (o := ⟨_, _, _, _, _, _⟩) (v := ?_) rfl (by rfl) ?_ ?_; rotate_left; (intro w' hw'; go_simp; with_reducible rfl); simp only [Act.put, List.setIfInBounds_toArray, List.set_cons_zero, List.set_cons_succ]) | (refine wpGr_skip (o := ⟨_, _, _, _, _, _⟩) rfl (by rfl) ?_; simp only [Act.put, List.setIfInBounds_toArray, List.set_cons_zero, List.set_cons_succ]))
    clear x0 x1 f0 f1
    refine wpGr_call (o := ⟨_, _, _, _, _, _⟩) rfl (by rfl) (fun K hK => ?_)
    go_simp
    refine hif.out.mono ?_
    rintro e w14 ⟨rfl, hb14⟩
    refine hK _ _ hb14 ?_
    clear hK K
    have hB14 := Lib.hid (hB13.out.trans (hb14.mono hB13.out.size))
    clear hb14 hB13 hif hX hF
    iterate 2 (first | (refine wpGr_read (o := ⟨_, _, _, _, _, _⟩) (v := ?_) rfl (by rfl) ?_ ?_; rotate_left; (intro w' hw'; go_simp; with_reducible rfl); simp only [Act.put, List.setIfInBounds_toArray, List.set_cons_zero, List.set_cons_succ]) | (refine wpGr_skip (o := ⟨_, _, _, _, _, _⟩) rfl (by rfl) ?_; simp only [Act.put, List.setIfInBounds_toArray, List.set_cons_zero, List.set_cons_succ]))
    refine wpGr_call (o := ⟨_, _, _, _, _, _⟩) rfl (by rfl) (fun K hK => ?_)
    go_simp
    refine (Fin.out w14 hB14).mono ?_
    rintro e w15 ⟨rfl, hb15⟩
    refine hK _ _ hb15 ?_
    clear hK K
    have hB15 := Lib.hid (hB14.out.trans (hb15.mono hB14.out.size))
    clear hb15 hB14
    iterate 2 (first | (refine wpGr_read (o := ⟨_, _, _, _, _, _⟩) (v := ?_) rfl (by rfl) ?_ ?_; rotate_left; (intro w' hw'; go_simp; with_reducible rfl); simp only [Act.put, List.setIfInBounds_toArray, List.set_cons_zero, List.set_cons_succ]) | (refine wpGr_skip (o := ⟨_, _, _, _, _, _⟩) rfl (by rfl) ?_; simp only [Act.put, List.setIfInBounds_toArray, List.set_cons_zero, List.set_cons_succ]))
    refine wpGr_done ?_
    go_wp2_with fail
    go_ret
    exact ⟨rfl, hB15.out⟩
end Go.Proofs.YtjlllkdimfkjaaaDoor
