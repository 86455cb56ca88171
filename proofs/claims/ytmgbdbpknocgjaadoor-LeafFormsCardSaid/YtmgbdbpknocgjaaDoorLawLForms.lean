/-
  LeafForms: the law's walk.
-/
import Derived.Test.YtmgbdbpknocgjaaDoorSure8
import Derived.Test.YtmgbdbpknocgjaaDoorLists3
import Derived.Test.YtmgbdbpknocgjaaDoorRefDec
namespace Go.Proofs.YtmgbdbpknocgjaaDoor
open Go Go.RowKit

theorem decC_facts (l : List Nat) : (decC l).length ≤ 504 ∧ asc (decC l) := by
  cases h : decS l with
  | none => rw [(dec_none h).1]; exact ⟨by simp, asc_nil⟩
  | some cs =>
    rw [(dec_some h).1]
    obtain ⟨_, _, h3, h4⟩ := decS_some h
    exact ⟨by rw [decN_len h3]; exact numS_le _ _, h4⟩
theorem errV_is (k : Nat) : NumIs (errV k) k := by
  unfold errV
  by_cases h : k = 0
  · rw [if_pos h]; exact .inl ⟨rfl, by rw [h]; rfl⟩
  · rw [if_neg h]; exact .inr rfl
set_option maxRecDepth 100000 in
set_option maxHeartbeats 8000000 in
theorem forms_any (a : Option Addr) (n c : Nat) (cs : List Ce) (a2 : Option Addr) (m c2 : Nat) (L : List Nat) (key : ByteArray) (w : World) (hn : cs.length = n) (hs : CSrc w a cs) (hl63 : n ≤ 9223372036854775807) (hm : L.length = m) (hsb : Src w a2 L) (hz : a2 = none → c2 = 0) (hmc : m ≤ c2) (hcm : c2 ≤ maxLen) (hb8 : B8 L) (hg : Hg w) :
    Calls Tryd.prog 3 #[.slice a n c, .slice a2 m c2, .string key] w fun e w' => e = .returned (.bool true) ∧ Below w.heap.size w w' := by
  have HG := Lib.hid hg
  have Hn := Lib.hid hn
  have Hm := Lib.hid hm
  have Hs := Lib.hid hs
  have Hb := Lib.hid (And.intro hsb (And.intro hz (And.intro hmc (And.intro hcm hb8))))
  have hm63 : m ≤ 9223372036854775807 := by unfold maxLen at hcm; omega
  have fin : ∀ w5 : World, Hid (Below w.heap.size w w5) → Calls Tryd.prog 6 #[] w5 fun e w' => e = .returned (.bool true) ∧ Below w.heap.size w w' := fun w5 h5 =>
    (sure_any w5 (HG.out.below h5.out)).mono fun _ _ h => ⟨h.1, h5.out.trans (h.2.mono h5.out.size)⟩
  have Fin := Lib.hid fin
  have num : ∀ (wx : World) (k : Nat), Hid (Below w.heap.size w wx) → Calls Tryd.prog 12 #[errV k] wx fun e w' => e = .returned (.int .i64 (k : Int)) ∧ Below w.heap.size w w' ∧ Below wx.heap.size wx w' := fun wx k hb =>
    (num_any (errV k) k wx (errV_is k) (HG.out.below hb.out)).mono fun _ _ h => ⟨h.1, hb.out.trans (h.2.mono hb.out.size), h.2⟩
  have Num := Lib.hid num
  have HB0 : Hid (Below w.heap.size w w) := Below.refl _ _
  clear hg hn hm hs hsb hz hmc hcm hb8 fin num
  go_enter Tryd.func3, Tryd.ntmps3
  by_cases hbig : 100 < n ∨ 900 < m ∨ 300 < key.size
  · by_cases h1 : 100 < n
    · have d1 : decide (100 < (n : Int)) = true := decide_eq_true (by omega)
      have d1' : decide (100 < n) = true := decide_eq_true h1
      clear hbig
      go_wp2_with fail
      refine (Fin.out w HB0).mono ?_
      rintro e w2 ⟨rfl, hb⟩
      have Hb := Lib.hid hb
      clear hb
      go_wp2
      go_ret
      exact ⟨rfl, Hb.out⟩
    have d1 : decide (100 < (n : Int)) = false := decide_eq_false (by omega)
    have d1' : decide (100 < n) = false := decide_eq_false h1
    by_cases h2 : 900 < m
    · have d2 : decide (900 < (m : Int)) = true := decide_eq_true (by omega)
      have d2' : decide (900 < m) = true := decide_eq_true h2
      clear hbig
      go_wp2_with fail
      refine (Fin.out w HB0).mono ?_
      rintro e w2 ⟨rfl, hb⟩
      have Hb := Lib.hid hb
      clear hb
      go_wp2
      go_ret
      exact ⟨rfl, Hb.out⟩
    have d2 : decide (900 < (m : Int)) = false := decide_eq_false (by omega)
    have d2' : decide (900 < m) = false := decide_eq_false h2
    have d3 : decide (300 < (key.size : Int)) = true := decide_eq_true (by omega)
    have d3' : decide (300 < key.size) = true := decide_eq_true (by omega)
    clear hbig
    go_wp2_with fail
    refine (Fin.out w HB0).mono ?_
    rintro e w2 ⟨rfl, hb⟩
    have Hb := Lib.hid hb
    clear hb
    go_wp2
    go_ret
    exact ⟨rfl, Hb.out⟩
  have hn100 : n ≤ 100 := by omega
  have hm900 : m ≤ 900 := by omega
  have hk300 : key.size ≤ 300 := by omega
  have d1 : decide (100 < (n : Int)) = false := decide_eq_false (by omega)
  have d2 : decide (900 < (m : Int)) = false := decide_eq_false (by omega)
  have d3 : decide (300 < (key.size : Int)) = false := decide_eq_false (by omega)
  clear hbig hl63 hm63
  go_wp2_with fail
  go_loop [7] (fun i => ∃ k : Nat, k ≤ n ∧ i = .int .i64 k) (fun i => n - (intOf i).toNat)
  case atStart => exact ⟨0, by omega, rfl⟩
  case round =>
    obtain ⟨k, hk, rfl⟩ := hrel
    by_cases hlt : k < n
    · obtain ⟨g, o, rfl, hcell⟩ := Hs.out (by rw [Hn.out]; omega)
      obtain ⟨q0, q1, _, _⟩ := hcell k (by rw [Hn.out]; exact hlt)
      clear hcell
      generalize (ca cs k).k = yk at *
      generalize (ca cs k).v = yv at *
      by_cases h1 : 300 < yk.size
      · have e1 : decide (300 < (yk.size : Int)) = true := decide_eq_true (by omega)
        have e1' : decide (300 < yk.size) = true := decide_eq_true h1
        clear q1
        go_wp2_with fail
        refine (Fin.out w HB0).mono ?_
        rintro e w2 ⟨rfl, hb⟩
        have Hb := Lib.hid hb
        clear hb
        go_wp2
        go_ret
        exact ⟨rfl, Hb.out⟩
      have e1 : decide (300 < (yk.size : Int)) = false := decide_eq_false (by omega)
      have e1' : decide (300 < yk.size) = false := decide_eq_false h1
      by_cases h2 : 3000 < yv.size
      · have e2 : decide (3000 < (yv.size : Int)) = true := decide_eq_true (by omega)
        have e2' : decide (3000 < yv.size) = true := decide_eq_true h2
        go_wp2_with fail
        refine (Fin.out w HB0).mono ?_
        rintro e w2 ⟨rfl, hb⟩
        have Hb := Lib.hid hb
        clear hb
        go_wp2
        go_ret
        exact ⟨rfl, Hb.out⟩
      have e2 : decide (3000 < (yv.size : Int)) = false := decide_eq_false (by omega)
      have e2' : decide (3000 < yv.size) = false := decide_eq_false h2
      go_wp2
      go_round
      case rel => exact ⟨k + 1, by omega, by go_num⟩
      case measure => simp [intOf]; omega
    obtain rfl : k = n := by omega
    have hgive := Lib.hid (give_any a k c cs w Hn.out Hs.out (by omega))
    clear d1 d2 d3
    go_wp2_with fail
    refine hgive.out.mono ?_
    rintro e w1 ⟨v, rfl, hv, hb1⟩
    obtain ⟨a3, c3, rfl, hs3, _⟩ := hv
    rw [Hn.out]
    have Hb1 := Lib.hid hb1
    have henc := Lib.hid (encode_any a3 k c3 cs w1 Hn.out hs3 (by omega))
    have hrenc := Lib.hid (fun wx hb => refEncode_any a k c cs wx Hn.out (Hs.out.below (B := w.heap.size) (w' := wx) hb (Nat.le_refl _)) (by omega))
    clear hs3 hb1 hgive
    generalize encB cs = EB at *
    generalize encE cs = EE at *
    go_wp2_with fail
    refine henc.out.mono ?_
    rintro e w2 ⟨v1, rfl, hv1, hb2⟩
    have Hb2 := Lib.hid (Hb1.out.trans (hb2.mono Hb1.out.size))
    have Hv1 := Lib.hid hv1
    clear hv1 hb2 henc Hb1
    go_wp2_with fail
    refine (hrenc.out w2 Hb2.out).mono ?_
    rintro e w3 ⟨v2, rfl, hv2, hb3⟩
    have Hb3 := Lib.hid (Hb2.out.trans (hb3.mono Hb2.out.size))
    have Hv2 := Lib.hid hv2
    replace Hv1 := Lib.hid (Hv1.out.below hb3 (Nat.le_refl _))
    have hdec := Lib.hid (decode_any a2 m c2 L w3 Hm.out (Hb.out.1.below Hb3.out (Nat.le_refl _)) Hb.out.2.1 (by omega) Hb.out.2.2.2.2)
    have hrdec := Lib.hid (fun wx hb => refDecode_any a2 m c2 L wx Hm.out (Hb.out.1.below (B := w.heap.size) (w' := wx) hb (Nat.le_refl _)) Hb.out.2.1 Hb.out.2.2.1 Hb.out.2.2.2.1 (by omega) Hb.out.2.2.2.2)
    have hDL := Lib.hid (decC_facts L)
    clear hv2 hb3 hrenc Hb2
    obtain ⟨DC, hDC⟩ : ∃ DC, DC = decC L := ⟨_, rfl⟩
    rw [← hDC] at hdec hrdec hDL
    clear hDC
    generalize decE L = DE at *
    go_wp2_with fail
    refine hdec.out.mono ?_
    rintro e w4 ⟨v3, rfl, hv3, hb4⟩
    have Hb4 := Lib.hid (Hb3.out.trans (hb4.mono Hb3.out.size))
    have Hv3 := Lib.hid hv3
    replace Hv1 := Lib.hid (Hv1.out.below hb4 (Nat.le_refl _))
    replace Hv2 := Lib.hid (Hv2.out.below hb4 (Nat.le_refl _))
    clear hv3 hb4 hdec Hb3
    go_wp2_with fail
    refine (hrdec.out w4 Hb4.out).mono ?_
    rintro e w5 ⟨v4, rfl, hv4, hb5⟩
    have Hb5 := Lib.hid (Hb4.out.trans (hb5.mono Hb4.out.size))
    have Hv4 := Lib.hid hv4
    have Hv3' := Lib.hid (Hv3.out.below hb5 (Nat.le_refl _))
    have cv1 := (Hv1.out.below hb5 (Nat.le_refl _)).conv
    have cv2 := (Hv2.out.below hb5 (Nat.le_refl _)).conv
    clear hv4 hb5 hrdec Hb4 Hv1 Hv2 Hv3
    generalize bstr EB = EBs at *
    go_wp2_with fail
    refine (Num.out w5 EE Hb5).mono ?_
    rintro e w6 ⟨rfl, hb6, hb56⟩
    obtain ⟨ax, cx, rfl, hsx, _⟩ := Hv3'.out
    obtain ⟨ay, cy, rfl, hsy, hzy, hly, hmy⟩ := Hv4.out
    obtain ⟨nd, hnd⟩ : ∃ nd, nd = DC.length := ⟨_, rfl⟩
    have Hnd := Lib.hid hnd.symm
    have hnd504 : nd ≤ 504 := by rw [hnd]; exact hDL.out.1
    rw [← hnd]
    have Hsy6 := Lib.hid (hsy.below hb56 (Nat.le_refl _))
    have hare := Lib.hid (are_any ax ay nd cx cy DC w6 hnd.symm (hsx.below hb56 (Nat.le_refl _)) Hsy6.out (by omega))
    have Hb6 := Lib.hid hb6
    clear hsx hsy hzy hly hmy hb56 hb6 Hv3' Hv4 Hb5 cv1 cv2 hnd
    go_wp2_with fail
    refine hare.out.mono ?_
    rintro e w7 ⟨rfl, hb7⟩
    have Hb7 : Hid (Below w.heap.size w w7) := Hb6.out.trans (hb7.mono Hb6.out.size)
    have Hsy7 := Lib.hid (Hsy6.out.below hb7 (Nat.le_refl _))
    clear hb7 Hb6 Hsy6 hare
    go_wp2_with fail
    refine (Num.out w7 DE Hb7).mono ?_
    rintro e w8 ⟨rfl, hb8, hb78⟩
    have Hb8 := Lib.hid hb8
    have Hsy8 := Lib.hid (Hsy7.out.below hb78 (Nat.le_refl _))
    clear hb8 hb78 Hb7 Hsy7
    have hsz := Lib.hid (fun w => leafSize_any key m w (by omega) (by omega))
    have hrsz := Lib.hid (fun w => refSize_any key m w (by omega) (by omega))
    generalize sizeS key m = Z at *
    go_wp2_with fail
    refine (hsz.out w8).mono ?_
    rintro e w' ⟨rfl, rfl⟩
    go_wp2_with fail
    refine (hrsz.out w8).mono ?_
    rintro e w9 ⟨rfl, hb9⟩
    have Hb9 := Lib.hid (Hb8.out.trans (hb9.mono Hb8.out.size))
    have Hsy9 := Lib.hid (Hsy8.out.below hb9 (Nat.le_refl _))
    clear hb9 Hb8 Hsy8 hsz hrsz
    have hgive2 := Lib.hid (give_any ay nd cy DC w9 Hnd.out Hsy9.out (by omega))
    go_wp2_with fail
    refine hgive2.out.mono ?_
    rintro e w10 ⟨v5, rfl, hv5, hb10⟩
    obtain ⟨az, cz, rfl, hsz, _⟩ := hv5
    rw [Hnd.out]
    have Hb10 := Lib.hid (Hb9.out.trans (hb10.mono Hb9.out.size))
    have Hsy10 := Lib.hid (Hsy9.out.below hb10 (Nat.le_refl _))
    have hfind := Lib.hid (find_any az nd cz DC key w10 Hnd.out hsz hDL.out.2 (by omega))
    have hFle := Lib.hid (findS_le DC key)
    have hFlt := Lib.hid (findS_lt DC key)
    have hFat := Lib.hid (findS_at DC key)
    have hAt : Hid (isAt DC key = (decide (findS DC key < nd) && ((ca DC (findS DC key)).k.toList == key.toList))) := by show _ = _; unfold isAt; rw [Hnd.out]
    rw [Hnd.out] at hFle hFat
    clear hsz hb10 hgive2 Hb9 Hsy9
    generalize isAt DC key = AT at *
    generalize findS DC key = F at *
    go_wp2_with fail
    refine hfind.out.mono ?_
    rintro e w11 ⟨rfl, hb11⟩
    have Hb11 := Lib.hid (Hb10.out.trans (hb11.mono Hb10.out.size))
    have Hsy11 := Lib.hid (Hsy10.out.below hb11 (Nat.le_refl _))
    clear hb11 hfind Hb10 Hsy10
    have hF504 : F ≤ nd := hFle.out
    go_wp2_with fail
    go_loop [18] (fun i => ∃ j : Nat, j ≤ F ∧ i = .int .i64 j) (fun i => F - (intOf i).toNat)
    case atStart => exact ⟨0, by omega, rfl⟩
    case round =>
      obtain ⟨j, hj, rfl⟩ := hrel
      by_cases hlt2 : j < F
      · obtain ⟨g, o, rfl, hcell⟩ := Hsy11.out (by rw [Hnd.out]; omega)
        have q0 := (hcell j (by rw [Hnd.out]; omega)).c0
        have hle : Op.bytesLess (ca DC j).k.toList key.toList = true := hFlt.out j hlt2
        have e1 : (j : Int) < (nd : Int) := by omega
        have e2 : j < nd := by omega
        clear hcell
        generalize (ca DC j).k = yk at *
        go_wp2
        go_round
        case rel => exact ⟨j + 1, by omega, by go_num⟩
        case measure => simp [intOf]; omega
      obtain rfl : j = F := by omega
      have fin2 : Hid (Below w.heap.size w w11) := Hb11.out
      by_cases hend : j < nd
      · obtain ⟨g, o, rfl, hcell⟩ := Hsy11.out (by rw [Hnd.out]; omega)
        have q0 := (hcell j (by rw [Hnd.out]; omega)).c0
        have hle : Op.bytesLess (ca DC j).k.toList key.toList = false := hFat.out hend
        have e1 : (j : Int) < (nd : Int) := by omega
        obtain ⟨D, hD⟩ : ∃ D, ((ca DC j).k.toList == key.toList) = D := ⟨_, rfl⟩
        have hAt2 : Hid (AT = D) := by show _ = _; rw [hAt.out, hD]; simp [hend]
        clear hcell hAt
        generalize (ca DC j).k = yk at *
        obtain rfl := hAt2.out
        go_wp2_with fail
        go_loopw [19] (fun i wr => ∃ q : Nat, q ≤ k ∧ i = .int .i64 q ∧ Hid (Below w.heap.size w wr)) (fun i _ => k - (intOf i).toNat)
        case atStart => exact ⟨0, by omega, rfl, fin2⟩
        case round =>
          obtain ⟨q, hq, rfl, hB⟩ := hrel
          by_cases hlt3 : q < k
          · obtain ⟨g3, o3, rfl, hcell⟩ := Hs.out.below hB.out (Nat.le_refl _) (by rw [Hn.out]; omega)
            have hA := hcell q (by rw [Hn.out]; exact hlt3)
            have r0 : ∀ w', Ext wr.drew w' → w'.cell? ⟨g3, o3 + q * 4, none⟩ = some (.string (ca cs q).k) := fun w' hw => (hA.ext hw).c0
            have r1 : ∀ w', Ext wr.drew w' → w'.cell? ⟨g3, o3 + q * 4 + 1, none⟩ = some (.string (ca cs q).v) := fun w' hw => (hA.ext hw).c1
            have r2 : ∀ w', Ext wr.drew w' → w'.cell? ⟨g3, o3 + q * 4 + 2, none⟩ = some (.int .i64 (ca cs q).n) := fun w' hw => (hA.ext hw).c2
            have r3 : ∀ w', Ext wr.drew w' → w'.cell? ⟨g3, o3 + q * 4 + 3, none⟩ = some (.int .i64 (ca cs q).p) := fun w' hw => (hA.ext hw).c3
            clear hcell hA
            generalize ca cs q = y at *
            obtain ⟨y0, y1, y2, y3⟩ := y
            dsimp only at r0 r1 r2 r3
            have hchk := Lib.hid (leafCheck_any y0 y1 y2 y3 wr.drew)
            have hmay := Lib.hid (fun wx => refMay_any y0 y1 y2 y3 wx)
            generalize mayB ⟨y0, y1, y2, y3⟩ = MM at *
            have k63 : (q : Int) < (k : Int) := by omega
            unfold chkC at hchk
            go_wp2_with fail
            refine wp_region_gr [(0, true), (1, true), (2, true), (3, true), (6, true), (7, true), (8, true), (9, true), (4, false), (5, true), (10, false), (11, true)] (by kernel_rfl) (by kernel_rfl) (by kernel_rfl) (by kernel_rfl) (fun _ _ _ _ _ h => h) ?_
            iterate 8 (refine wpGr_read (o := ⟨_, _, _, _, _, _⟩) (v := ?_) rfl (by rfl) ?_ ?_; rotate_left; (intro w' hw'; go_simp; with_reducible rfl); simp only [Act.put, List.setIfInBounds_toArray, List.set_cons_zero, List.set_cons_succ])
            cases MM
            all_goals
              simp only [Bool.false_eq_true, if_false, if_true] at hchk
              refine wpGr_call (o := ⟨_, _, _, _, _, _⟩) rfl (by rfl) (fun K hK => ?_)
              go_simp
              refine hchk.out.mono ?_
              rintro e w12 ⟨rfl, hb12⟩
              refine hK _ _ hb12 ?_
              clear hK K r0 r1 r2 r3
              have hB12 := Lib.hid (hB.out.trans (((Below.refl wr.heap.size wr).drew.trans hb12).mono hB.out.size))
              clear hb12
              iterate 1 (refine wpGr_read (o := ⟨_, _, _, _, _, _⟩) (v := ?_) rfl (by rfl) ?_ ?_; rotate_left; (intro w' hw'; go_simp; with_reducible rfl); simp only [Act.put, List.setIfInBounds_toArray, List.set_cons_zero, List.set_cons_succ])
              refine wpGr_call (o := ⟨_, _, _, _, _, _⟩) rfl (by rfl) (fun K hK => ?_)
              go_simp
              refine (hmay.out w12).mono ?_
              rintro e w13 ⟨rfl, hb13⟩
              refine hK _ _ hb13 ?_
              clear hK K
              have hB13 := Lib.hid (hB12.out.trans (hb13.mono hB12.out.size))
              clear hb13
              iterate 1 (refine wpGr_read (o := ⟨_, _, _, _, _, _⟩) (v := ?_) rfl (by rfl) ?_ ?_; rotate_left; (intro w' hw'; go_simp; with_reducible rfl); simp only [Act.put, List.setIfInBounds_toArray, List.set_cons_zero, List.set_cons_succ])
              refine wpGr_done ?_
              go_wp2_with fail
              go_roundw
              case rel => exact ⟨q + 1, by omega, by go_num, hB13⟩
              case measure => simp [intOf]; omega
          · obtain rfl : q = k := by omega
            go_wp2_with fail
            refine (Fin.out wr hB).mono ?_
            rintro e w12 ⟨rfl, hb⟩
            have Hb := Lib.hid hb
            clear hb
            go_wp2
            go_ret
            exact ⟨rfl, Hb.out⟩
      · have e1 : decide ((j : Int) < (nd : Int)) = false := decide_eq_false (by omega)
        have e1' : decide (j < nd) = false := decide_eq_false hend
        have hAt2 : Hid (AT = false) := by show _ = _; rw [hAt.out]; simp [hend]
        clear hAt
        obtain rfl := hAt2.out
        go_wp2_with fail
        go_loopw [19] (fun i wr => ∃ q : Nat, q ≤ k ∧ i = .int .i64 q ∧ Hid (Below w.heap.size w wr)) (fun i _ => k - (intOf i).toNat)
        case atStart => exact ⟨0, by omega, rfl, fin2⟩
        case round =>
          obtain ⟨q, hq, rfl, hB⟩ := hrel
          by_cases hlt3 : q < k
          · obtain ⟨g3, o3, rfl, hcell⟩ := Hs.out.below hB.out (Nat.le_refl _) (by rw [Hn.out]; omega)
            have hA := hcell q (by rw [Hn.out]; exact hlt3)
            have r0 : ∀ w', Ext wr.drew w' → w'.cell? ⟨g3, o3 + q * 4, none⟩ = some (.string (ca cs q).k) := fun w' hw => (hA.ext hw).c0
            have r1 : ∀ w', Ext wr.drew w' → w'.cell? ⟨g3, o3 + q * 4 + 1, none⟩ = some (.string (ca cs q).v) := fun w' hw => (hA.ext hw).c1
            have r2 : ∀ w', Ext wr.drew w' → w'.cell? ⟨g3, o3 + q * 4 + 2, none⟩ = some (.int .i64 (ca cs q).n) := fun w' hw => (hA.ext hw).c2
            have r3 : ∀ w', Ext wr.drew w' → w'.cell? ⟨g3, o3 + q * 4 + 3, none⟩ = some (.int .i64 (ca cs q).p) := fun w' hw => (hA.ext hw).c3
            clear hcell hA
            generalize ca cs q = y at *
            obtain ⟨y0, y1, y2, y3⟩ := y
            dsimp only at r0 r1 r2 r3
            have hchk := Lib.hid (leafCheck_any y0 y1 y2 y3 wr.drew)
            have hmay := Lib.hid (fun wx => refMay_any y0 y1 y2 y3 wx)
            generalize mayB ⟨y0, y1, y2, y3⟩ = MM at *
            have k63 : (q : Int) < (k : Int) := by omega
            unfold chkC at hchk
            go_wp2_with fail
            refine wp_region_gr [(0, true), (1, true), (2, true), (3, true), (6, true), (7, true), (8, true), (9, true), (4, false), (5, true), (10, false), (11, true)] (by kernel_rfl) (by kernel_rfl) (by kernel_rfl) (by kernel_rfl) (fun _ _ _ _ _ h => h) ?_
            iterate 8 (refine wpGr_read (o := ⟨_, _, _, _, _, _⟩) (v := ?_) rfl (by rfl) ?_ ?_; rotate_left; (intro w' hw'; go_simp; with_reducible rfl); simp only [Act.put, List.setIfInBounds_toArray, List.set_cons_zero, List.set_cons_succ])
            cases MM
            all_goals
              simp only [Bool.false_eq_true, if_false, if_true] at hchk
              refine wpGr_call (o := ⟨_, _, _, _, _, _⟩) rfl (by rfl) (fun K hK => ?_)
              go_simp
              refine hchk.out.mono ?_
              rintro e w12 ⟨rfl, hb12⟩
              refine hK _ _ hb12 ?_
              clear hK K r0 r1 r2 r3
              have hB12 := Lib.hid (hB.out.trans (((Below.refl wr.heap.size wr).drew.trans hb12).mono hB.out.size))
              clear hb12
              iterate 1 (refine wpGr_read (o := ⟨_, _, _, _, _, _⟩) (v := ?_) rfl (by rfl) ?_ ?_; rotate_left; (intro w' hw'; go_simp; with_reducible rfl); simp only [Act.put, List.setIfInBounds_toArray, List.set_cons_zero, List.set_cons_succ])
              refine wpGr_call (o := ⟨_, _, _, _, _, _⟩) rfl (by rfl) (fun K hK => ?_)
              go_simp
              refine (hmay.out w12).mono ?_
              rintro e w13 ⟨rfl, hb13⟩
              refine hK _ _ hb13 ?_
              clear hK K
              have hB13 := Lib.hid (hB12.out.trans (hb13.mono hB12.out.size))
              clear hb13
              iterate 1 (refine wpGr_read (o := ⟨_, _, _, _, _, _⟩) (v := ?_) rfl (by rfl) ?_ ?_; rotate_left; (intro w' hw'; go_simp; with_reducible rfl); simp only [Act.put, List.setIfInBounds_toArray, List.set_cons_zero, List.set_cons_succ])
              refine wpGr_done ?_
              go_wp2_with fail
              go_roundw
              case rel => exact ⟨q + 1, by omega, by go_num, hB13⟩
              case measure => simp [intOf]; omega
          · obtain rfl : q = k := by omega
            go_wp2_with fail
            refine (Fin.out wr hB).mono ?_
            rintro e w12 ⟨rfl, hb⟩
            have Hb := Lib.hid hb
            clear hb
            go_wp2
            go_ret
            exact ⟨rfl, Hb.out⟩
end Go.Proofs.YtmgbdbpknocgjaaDoor
