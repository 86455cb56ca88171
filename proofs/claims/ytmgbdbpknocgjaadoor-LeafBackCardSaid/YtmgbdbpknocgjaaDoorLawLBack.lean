/-
  LeafBack: the law's walk.
-/
import Derived.Test.YtmgbdbpknocgjaaDoorSure8
namespace Go.Proofs.YtmgbdbpknocgjaaDoor
open Go Go.RowKit

theorem errV_n (k : Nat) (h : k ≠ 0) : errV k = .iface 51 (.int .i64 k) := by unfold errV; rw [if_neg h]
theorem src_zero (w : World) : Src (w.alloc (.cells #[.int .u8 0] 5)) (some ⟨w.heap.size, 0, none⟩) [0] := src_one w 5 0
/-- What the law asks of lists that have a load. -/
theorem back_facts {cs : List Ce} {n : Nat} (h : allMay cs) (ha : asc cs) (hl : (loadS cs).length ≤ 504) (hn : cs.length = n) (h100 : n ≤ 100) :
    (decC (loadS cs) = cs ∧ decE (loadS cs) = 0) ∧ (decC ((loadS cs).take ((loadS cs).length - 1)) = [] ∧ decE ((loadS cs).take ((loadS cs).length - 1)) = 3) ∧
    (decC (loadS cs ++ [0]) = [] ∧ decE (loadS cs ++ [0]) = 3) ∧ (loadS cs).length = 1 + sums cs n ∧ 0 < (loadS cs).length := by
  have hd := decS_load h ha hl
  refine ⟨dec_some hd, dec_none (decS_cut hd (load_pos cs)), dec_none (decS_ext hd (by simp)), ?_, load_pos cs⟩
  rw [load_len, hn, vs_small (by omega), sums_all cs n (by omega)]
set_option maxRecDepth 100000 in
set_option maxHeartbeats 4000000 in
theorem back_any (a : Option Addr) (n c : Nat) (cs : List Ce) (w : World) (hn : cs.length = n) (hs : CSrc w a cs) (hl : n * 48 ≤ 140737488355328) (hg : Hg w) :
    Calls Tryd.prog 4 #[.slice a n c] w fun e w' => e = .returned (.bool true) ∧ Below w.heap.size w w' := by
  have HG := Lib.hid hg
  have Hn := Lib.hid hn
  have Hs := Lib.hid hs
  have hgive := Lib.hid (give_any a n c cs w hn hs hl)
  have fin : ∀ w5 : World, Hid (Below w.heap.size w w5) → Calls Tryd.prog 6 #[] w5 fun e w' => e = .returned (.bool true) ∧ Below w.heap.size w w' := fun w5 h5 =>
    (sure_any w5 (HG.out.below h5.out)).mono fun _ _ h => ⟨h.1, h5.out.trans (h.2.mono h5.out.size)⟩
  have Fin := Lib.hid fin
  have num3 : ∀ wx : World, Hid (Below w.heap.size w wx) → Calls Tryd.prog 12 #[.iface 51 (.int .i64 3)] wx fun e w' => e = .returned (.int .i64 3) ∧ Below w.heap.size w w' := fun wx hb =>
    (num_err 3 wx (HG.out.below hb.out)).mono fun _ _ h => ⟨h.1, hb.out.trans (h.2.mono hb.out.size)⟩
  have Num3 := Lib.hid num3
  clear hg hn hs fin num3
  go_enter Tryd.func4, Tryd.ntmps4
  go_wp2_with fail
  refine hgive.out.mono ?_
  rintro e w1 ⟨v, rfl, hv, hb1⟩
  obtain ⟨a1, c1, rfl, hs1, _, hlc1, hcm1⟩ := hv
  rw [Hn.out] at hlc1 ⊢
  have Hs1 := Lib.hid hs1
  have Hb1 := Lib.hid hb1
  clear hs1 hb1 hgive hlc1 hcm1
  by_cases h100 : 100 < n
  · have d1 : decide (100 < (n : Int)) = true := decide_eq_true (by omega)
    have d1' : decide (100 < n) = true := decide_eq_true h100
    go_wp2_with fail
    refine (Fin.out w1 Hb1).mono ?_
    rintro e w2 ⟨rfl, hb⟩
    have Hb := Lib.hid hb
    clear hb
    go_wp2
    go_ret
    exact ⟨rfl, Hb.out⟩
  have d1 : decide (100 < (n : Int)) = false := decide_eq_false (by omega)
  have d1' : decide (100 < n) = false := decide_eq_false h100
  have henc := Lib.hid (encode_any a1 n c1 cs w1 Hn.out Hs1.out (by omega))
  have bad : ∀ k : Nat, k ≠ 0 → encE cs = k → encE cs ≠ 0 := fun k h1 h2 => by rw [h2]; exact h1
  by_cases hE : encE cs = 0
  rotate_left
  · skip
    rw [errV_n _ hE] at henc
    generalize encE cs = E at *
    clear bad d1'
    go_wp2_with fail
    refine henc.out.mono ?_
    rintro e w2 ⟨v, rfl, _, hb2⟩
    have Hb2 := Lib.hid (Hb1.out.trans (hb2.mono Hb1.out.size))
    clear hb2
    go_wp2_with fail
    refine (Fin.out w2 Hb2).mono ?_
    rintro e w3 ⟨rfl, hb⟩
    have Hb := Lib.hid hb
    clear hb
    go_wp2
    go_ret
    exact ⟨rfl, Hb.out⟩
  have hfacts : Hid (allMay cs ∧ asc cs ∧ encB cs = loadS cs ∧ (loadS cs).length ≤ 504) := by
    rcases encE_cases cs with h | h | h | h
    · exact absurd (h.1.symm.trans hE) (by decide)
    · exact absurd (h.1.symm.trans hE) (by decide)
    · exact absurd (h.1.symm.trans hE) (by decide)
    · exact ⟨h.2.2.1, h.2.2.2.1, h.2.1, h.2.2.2.2⟩
  rw [hE, errV_0, hfacts.out.2.2.1] at henc
  have hbf := Lib.hid (back_facts hfacts.out.1 hfacts.out.2.1 hfacts.out.2.2.2 Hn.out (by omega))
  have hld := Lib.hid (load_b8 cs)
  clear bad hE
  obtain ⟨LD, hLD⟩ : ∃ LD, LD = loadS cs := ⟨_, rfl⟩
  rw [← hLD] at henc hbf hld
  have HLD := Lib.hid (show LD.length ≤ 504 by rw [hLD]; exact hfacts.out.2.2.2)
  clear hLD
  go_wp2_with fail
  refine henc.out.mono ?_
  rintro e w2 ⟨v, rfl, hv, hb2⟩
  obtain ⟨ab, cb, rfl, hsb, hzb, hlcb, hcmb⟩ := hv.arg
  obtain ⟨LB, hLB⟩ : ∃ LB, LB = LD.length := ⟨_, rfl⟩
  have Hsb := Lib.hid hsb
  have Hzb := Lib.hid hzb
  have Hs2 := Lib.hid (Hs1.out.below hb2 (Nat.le_refl _))
  have Hb2 := Lib.hid (Hb1.out.trans (hb2.mono Hb1.out.size))
  have HLB := Lib.hid hLB.symm
  have hLB504 : LB ≤ 504 := by rw [hLB]; exact HLD.out
  have hdec := Lib.hid (decode_any ab LB cb LD w2 hLB.symm hsb hzb (by omega) hld.out)
  rw [hbf.out.1.1, hbf.out.1.2, errV_0] at hdec
  rw [← hLB] at hlcb ⊢
  have hcb2 : cb ≤ 9223372036854775807 := by unfold maxLen at hcmb; omega
  clear hv hsb hzb hb2 hLB henc Hs1 Hb1 hcmb
  go_wp2_with fail
  refine hdec.out.mono ?_
  rintro e w3 ⟨v, rfl, hv, hb3⟩
  obtain ⟨a3, c3, rfl, hs3, _⟩ := hv
  rw [Hn.out]
  have Hs3 := Lib.hid (Hs2.out.below hb3 (Nat.le_refl _))
  have Hb3 := Lib.hid (Hb2.out.trans (hb3.mono Hb2.out.size))
  have Hsb3 := Lib.hid (Hsb.out.below hb3 (Nat.le_refl _))
  have Hy3 := Lib.hid hs3
  have hare := Lib.hid (are_any a3 a n c3 c cs w3 Hn.out hs3 (Hs.out.below Hb3.out (Nat.le_refl _)) (by omega))
  clear hs3 hb3 hdec Hs2 Hb2 Hsb
  go_wp2_with fail
  refine hare.out.mono ?_
  rintro e w4 ⟨rfl, hb4⟩
  have Hs4 := Lib.hid (Hs3.out.below hb4 (Nat.le_refl _))
  have Hb4 := Lib.hid (Hb3.out.trans (hb4.mono Hb3.out.size))
  have Hsb4 := Lib.hid (Hsb3.out.below hb4 (Nat.le_refl _))
  have Hy4 := Lib.hid (Hy3.out.below hb4 (Nat.le_refl _))
  clear hb4 hare Hs3 Hb3 Hsb3 Hy3
  go_wp2_with fail
  go_loopw [8, 9] (fun t i wr => ∃ k T : Nat, k ≤ n ∧ i = .int .i64 k ∧ t = .int .i64 T ∧ T ≤ 1 + 124 * k ∧ Hid (T = 1 + sums cs k) ∧ Hid (CSrc wr a1 cs) ∧ Hid (CSrc wr a3 cs) ∧ Hid (Src wr ab LD) ∧ Hid (Below w.heap.size w wr)) (fun _ i _ => n - (intOf i).toNat)
  case atStart => exact ⟨0, 1, by omega, rfl, rfl, by omega, rfl, Hs4, Hy4, Hsb4, Hb4⟩
  case round =>
    obtain ⟨k, T, hk, rfl, rfl, hT, hTs, hsr, hyr, hbr, hB⟩ := hrel
    by_cases hlt : k < n
    · obtain ⟨g, o, rfl, hcell⟩ := hsr.out (by rw [Hn.out]; omega)
      have hA := hcell k (by rw [Hn.out]; exact hlt)
      have q0 := hA.c0
      have hmay := hfacts.out.1 k (by rw [Hn.out]; exact hlt)
      have h1 := may_k hmay
      have h2 := may_n0 hmay
      have h3 := may_n hmay
      have h4 := size_le hmay
      have hsum : Hid (T + sizeS (ca cs k).k (ca cs k).n = 1 + sums cs (k + 1)) := by
        show _ = _
        rw [sums_succ cs k (by rw [Hn.out]; exact hlt), one_len hmay, hTs.out]; omega
      have hfind := Lib.hid (find_any a3 n c3 cs (ca cs k).k wr Hn.out hyr.out hfacts.out.2.1 (by omega))
      rw [findS_key hfacts.out.2.1 k (by rw [Hn.out]; exact hlt), isAt_key hfacts.out.2.1 k (by rw [Hn.out]; exact hlt)] at hfind
      clear hcell hmay hTs
      go_wp2_with fail
      refine hfind.out.mono ?_
      rintro e w5 ⟨rfl, hb5⟩
      have hA5 := hA.below hb5 hA.lt
      have r0 : ∀ w', Ext w5.drew w' → w'.cell? ⟨g, o + k * 4, none⟩ = some (.string (ca cs k).k) := fun w' hw => (hA5.ext hw).c0
      have r2 : ∀ w', Ext w5.drew w' → w'.cell? ⟨g, o + k * 4 + 2, none⟩ = some (.int .i64 (ca cs k).n) := fun w' hw => (hA5.ext hw).c2
      generalize (ca cs k).k = lk at *
      generalize (ca cs k).n = ln at *
      obtain ⟨LN, rfl⟩ := Int.eq_ofNat_of_zero_le h2
      have hsz := Lib.hid (leafSize_any lk LN w5.drew (by omega) (by omega))
      obtain ⟨Z, hZ⟩ : ∃ Z, Z = sizeS lk (LN : Int) := ⟨_, rfl⟩
      rw [← hZ] at hsz hsum h4
      clear hZ
      have hbd : Below wr.heap.size wr w5.drew := hb5.drew
      have hs5 := Lib.hid (hsr.out.below hbd (Nat.le_refl _))
      have hy5 := Lib.hid (hyr.out.below hbd (Nat.le_refl _))
      have hbs5 := Lib.hid (hbr.out.below hbd (Nat.le_refl _))
      have hB5 := Lib.hid (hB.out.trans (hbd.mono hB.out.size))
      have k63 : (k : Int) < (n : Int) := by omega
      have y1 : IntKind.i64.wrap ((T : Int) + (Z : Int)) = (T : Int) + (Z : Int) := by rw [IntKind.wrap_i64]; omega
      clear hb5 hbd hA hA5 q0 hfind hsr hyr hbr hB h1 h2 h3
      go_wp2_with fail
      refine wp_region_gr [(0, true), (1, true), (2, true), (3, true), (4, true), (5, true), (6, true), (7, true), (8, true), (9, true), (10, true), (11, false), (12, true), (13, true)] (by kernel_rfl) (by kernel_rfl) (by kernel_rfl) (by kernel_rfl) (fun _ _ _ _ _ h => h) ?_
      iterate 11 (refine wpGr_read (o := ⟨_, _, _, _, _, _⟩) (v := ?_) rfl (by rfl) ?_ ?_; rotate_left; (intro w' hw'; go_simp; with_reducible rfl); simp only [Act.put, List.setIfInBounds_toArray, List.set_cons_zero, List.set_cons_succ])
      refine wpGr_call (o := ⟨_, _, _, _, _, _⟩) rfl (by rfl) (fun K hK => ?_)
      go_simp
      refine hsz.out.mono ?_
      rintro e w' ⟨rfl, rfl⟩
      refine hK _ _ (Ext.refl _) ?_
      clear hK K r0 r2
      iterate 2 (refine wpGr_read (o := ⟨_, _, _, _, _, _⟩) (v := ?_) rfl (by rfl) ?_ ?_; rotate_left; (intro w' hw'; go_simp; with_reducible rfl); simp only [Act.put, List.setIfInBounds_toArray, List.set_cons_zero, List.set_cons_succ])
      refine wpGr_done ?_
      go_wp2_with fail
      go_roundw
      case rel => exact ⟨k + 1, T + Z, by omega, by go_num, by go_num, by omega, hsum, hs5, hy5, hbs5, hB5⟩
      case measure => simp [intOf]; omega
    · obtain rfl : k = n := by omega
      have hTL : Hid (T = LB) := by show _ = _; rw [hTs.out, ← HLB.out]; exact hbf.out.2.2.2.1.symm
      obtain ⟨m, hm⟩ : ∃ m, LB = m + 1 := ⟨LB - 1, by have := hbf.out.2.2.2.2; have := HLB.out; omega⟩
      have hdc := Lib.hid (decode_any ab m cb (LD.take (LD.length - 1)) wr (by rw [List.length_take, HLB.out]; omega) (by
        intro h0
        rw [List.length_take] at h0
        obtain ⟨g, o, e, hc⟩ := hbr.out (by omega)
        exact ⟨g, o, e, hc.start _⟩) Hzb.out (by omega) (hld.out.take _))
      rw [hbf.out.2.1.1, hbf.out.2.1.2, errV_n 3 (by decide)] at hdc
      have hdc2 := Lib.hid hbf.out.2.2.1
      have e1 : (LB : Int) - 1 = (m : Int) := by omega
      have e2 : IntKind.i64.wrap ((LB : Int) - 1) = (m : Int) := by rw [IntKind.wrap_i64]; omega
      have e3 : max (0 : Int) (m : Int) = (m : Int) := by omega
      have e4 : (m : Int) ≤ (cb : Int) := by omega
      have Hm := Lib.hid hm
      clear hTs hm hbf hsr hyr
      go_wp2_with fail
      refine hdc.out.mono ?_
      rintro e w5 ⟨v5, rfl, _, hb5⟩
      have hbr5 := Lib.hid (hbr.out.below hb5 (Nat.le_refl _))
      have hB5 := Lib.hid (hB.out.trans (hb5.mono hB.out.size))
      clear hb5 hdc hB hbr e1 e2 e3 e4
      have hsz5 := hB5.out.size
      have hbe : Below w5.heap.size w5 (w5.alloc (.cells #[] 5)) := (Below.refl _ _).alloc (Nat.le_refl _) _
      have hbrE := Lib.hid (hbr5.out.below hbe (Nat.le_refl _))
      have HbE := Lib.hid hbe
      have hzE : w5.heap.size ≤ (w5.alloc (.cells #[] 5)).heap.size := hbe.size
      clear hbe
      go_wp2_with (first | (show wpList _ _ _ (⟨some 92, _, _, _, _, _⟩ :: _) _ _; refine wpList_append_bytes rfl (.tmp 90) (.tmp 91) 23 rfl w5.heap.size 5 Tryd.underlying23 infoB _ [] (by rfl) (own_empty w5 5) ab cb LD (by rw [HLB.out]; rfl) Hzb.out hbrE.out (by rw [HLB.out]; simp only [List.length_nil]; omega) hzE ?_; intro v6 w6 hown6 hgrow6 hnear6; have hz6 := Nat.le_trans hzE hgrow6.out.size; have hs0 := src_zero w6; clear hnear6) | (show wpList _ _ _ (⟨some 94, _, _, _, _, _⟩ :: _) _ _; refine wpList_append_bytes rfl (.tmp 92) (.tmp 93) 23 rfl w5.heap.size 5 Tryd.underlying23 infoB _ ([] ++ LD) (by rfl) (hown6.out.alloc _) (some ⟨w6.heap.size, 0, none⟩) 1 [0] (by rfl) (fun h => by cases h) hs0 (by rw [List.nil_append, HLB.out]; simp only [List.length_singleton]; omega) (Nat.le_trans hz6 (by simp)) ?_; intro v7 w7 hown7 hgrow7 hnear7))
      have hal6 : Below w6.heap.size w6 (w6.alloc (.cells #[.int .u8 0] 5)) := (Below.refl _ _).alloc (Nat.le_refl _) _
      have hb6 : Below w5.heap.size w5 w6 := HbE.out.grown hgrow6.out hzE (by intro k hk; cases hk; exact Nat.le_refl _)
      have hb7 : Below w5.heap.size w5 w7 := (hb6.trans (hal6.mono hb6.size)).grown hgrow7.out (Nat.le_trans hb6.size hal6.size) (fun j hj => (hown6.out.lt j hj).1)
      have HB7 := Lib.hid (hB5.out.trans (hb7.mono hB5.out.size))
      have ho7 := hown7.out
      rw [List.nil_append] at ho7
      obtain ⟨a7, c7, rfl, hs7, _, _, hz7⟩ := own_slice ho7
      have hlen7 : (LD ++ [0]).length = LB + 1 := by rw [List.length_append, HLB.out]; rfl
      rw [hlen7]
      have hdd := Lib.hid (decode_any a7 (LB + 1) c7 (LD ++ [0]) w7 hlen7 hs7 hz7 (by omega) (hld.out.append (B8.one (by decide))))
      rw [hdc2.out.1, hdc2.out.2, errV_n 3 (by decide)] at hdd
      clear hal6 hb6 hb7 ho7 hs7 hz7 hown7 hown6 hgrow6 hgrow7 hnear7 hz6 hs0 hB5 HbE hbrE hbr5 hlen7 hzE hsz5
      go_wp2_with fail
      refine hdd.out.mono ?_
      rintro e w8 ⟨v8, rfl, _, hb8⟩
      have HB8 := Lib.hid (HB7.out.trans (hb8.mono HB7.out.size))
      have z1 : ((LB : Int) == (T : Int)) = true := by have := hTL.out; simp; omega
      have z2 : decide ((LB : Int) ≤ 504) = true := decide_eq_true (by omega)
      have z3 : decide (LB ≤ 504) = true := decide_eq_true (by omega)
      have z4 : LB = T := hTL.out.symm
      subst z4
      clear hb8 hdd HB7
      go_wp2_with fail
      refine (Num3.out _ HB8).mono ?_
      rintro e w9 ⟨rfl, hb9⟩
      go_wp2_with fail
      refine (Num3.out _ hb9).mono ?_
      rintro e w10 ⟨rfl, hb10⟩
      go_wp2_with fail
      refine (Fin.out _ hb10).mono ?_
      rintro e w11 ⟨rfl, hb11⟩
      have Hb11 := Lib.hid hb11
      clear hb9 hb10 hb11
      go_wp2
      go_ret
      exact ⟨rfl, Hb11.out⟩
end Go.Proofs.YtmgbdbpknocgjaaDoor
