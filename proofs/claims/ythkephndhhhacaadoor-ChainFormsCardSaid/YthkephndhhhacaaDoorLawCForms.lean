/-
  ChainForms: the law's walk.
-/
import Derived.Test.YthkephndhhhacaaDoorSure10
import Derived.Test.YthkephndhhhacaaDoorRefCh
namespace Go.Proofs.YthkephndhhhacaaDoor
open Go Go.RowKit

set_option maxRecDepth 100000 in
set_option maxHeartbeats 4000000 in
theorem forms_any (V : ByteArray) (p : Int) (a : Option Addr) (q c : Nat) (L : List Nat) (w : World) (hp1 : -9223372036854775808 ≤ p) (hp2 : p ≤ 9223372036854775807)
    (hq : L.length = q) (hs : Src w a L) (hmc : q ≤ c) (hcm : c ≤ maxLen) (hb8 : B8 L) (hg : Hg w) :
    Calls Tryd.prog 3 #[.string V, .int .i64 p, .slice a q c] w fun e w' => e = .returned (.bool true) ∧ Below w.heap.size w w' := by
  have HG := Lib.hid hg
  have Hq := Lib.hid hq
  have Hs := Lib.hid hs
  have Hm := Lib.hid (And.intro hmc (And.intro hcm hb8))
  have Hp := Lib.hid (And.intro hp1 hp2)
  have fin : ∀ w5 : World, Hid (Below w.heap.size w w5) → Calls Tryd.prog 6 #[] w5 fun e w' => e = .returned (.bool true) ∧ Below w5.heap.size w5 w' := fun w5 h5 => sure_any w5 (HG.out.below h5.out)
  have Fin := Lib.hid fin
  have num : ∀ (wx : World) (k : Int), Hid (Below w.heap.size w wx) → Calls Tryd.prog 14 #[errC k] wx fun e w' => e = .returned (.int .i64 k) ∧ Below wx.heap.size wx w' := fun wx k hb => num_any (errC k) k wx (errC_is k) (HG.out.below hb.out)
  have Num := Lib.hid num
  have hB0 : Hid (Below w.heap.size w w) := Below.refl _ _
  have hq63 : q ≤ 9223372036854775807 := by unfold maxLen at hcm; omega
  clear hg hq hs hmc hcm hb8 fin num
  by_cases hbig : 5000 < V.size
  · have d1 : decide (5000 < (V.size : Int)) = true := decide_eq_true (by omega)
    have d1' : decide (5000 < V.size) = true := decide_eq_true hbig
    clear hbig
    go_enter Tryd.func3, Tryd.ntmps3
    go_wp2_with fail
    refine (Fin.out w hB0).mono ?_
    rintro e w2 ⟨rfl, hb⟩
    have Hbx := Lib.hid hb
    clear hb
    go_wp2
    go_ret
    exact ⟨rfl, Hbx.out⟩
  have d1 : decide (5000 < (V.size : Int)) = false := decide_eq_false (by omega)
  have d1' : decide (5000 < V.size) = false := decide_eq_false hbig
  by_cases hq9 : 900 < q
  · have d2 : decide (900 < (q : Int)) = true := decide_eq_true (by omega)
    have d2' : decide (900 < q) = true := decide_eq_true hq9
    clear hbig
    go_enter Tryd.func3, Tryd.ntmps3
    go_wp2_with fail
    refine (Fin.out w hB0).mono ?_
    rintro e w2 ⟨rfl, hb⟩
    have Hbx := Lib.hid hb
    clear hb
    go_wp2
    go_ret
    exact ⟨rfl, Hbx.out⟩
  have d2 : decide (900 < (q : Int)) = false := decide_eq_false (by omega)
  have d2' : decide (900 < q) = false := decide_eq_false hq9
  obtain ⟨K, hK⟩ : ∃ K, K = nP V.size := ⟨_, rfl⟩
  have hK11 : K ≤ 11 := by rw [hK]; unfold nP; omega
  have hlen : Hid ((chs V).length = K) := by show _ = _; rw [chs_len, hK]
  have hcn : Hid (cntS (V.size : Int) = (K : Int)) := by show _ = _; rw [cnt_np, hK]
  have hpc := Lib.hid (pieces_any V (by omega) w)
  have hrp := Lib.hid (fun wx => refPieces_any V wx (by omega))
  have hct := Lib.hid (fun wx => count_any (V.size : Int) wx (by omega) (by omega))
  have henc := Lib.hid (fun wx => encode_any p V wx (by omega))
  have hrenc := Lib.hid (fun wx => refEncode_any p V wx (by omega))
  have hdec := Lib.hid (fun wx (hb : Hid (Below w.heap.size w wx)) => decode_any a q c L wx Hq.out (Hs.out.below hb.out (Nat.le_refl _)) Hm.out.1 (by omega) Hm.out.2.1 Hm.out.2.2)
  have hrdec := Lib.hid (fun wx (hb : Hid (Below w.heap.size w wx)) => refDecode_any a q c L wx Hq.out (Hs.out.below hb.out (Nat.le_refl _)) Hm.out.1 (by omega) Hm.out.2.1 Hm.out.2.2)
  have hcp := Lib.hid (fun wx => count_any p wx Hp.out.1 Hp.out.2)
  rw [hcn.out] at hct
  generalize chB p V = EB at *
  generalize chE p V = EE at *
  generalize dcN L = DN at *
  generalize dcV L = DV at *
  generalize dcE L = DE at *
  clear hK hbig hq9
  go_enter Tryd.func3, Tryd.ntmps3
  go_wp2_with fail
  refine hpc.out.mono ?_
  rintro e w1 ⟨v, rfl, ⟨a1, c1, rfl, ht1, _⟩, hb1⟩
  rw [hlen.out]
  have Ht1 := Lib.hid ht1
  have Hb1 := Lib.hid hb1
  clear ht1 hb1 hpc
  go_wp2_with fail
  refine (hrp.out w1).mono ?_
  rintro e w2 ⟨v, rfl, ⟨a2, c2, rfl, ht2, _⟩, hb2⟩
  rw [hlen.out]
  replace Ht1 := Lib.hid (And.intro (Ht1.out.below hb2 (Nat.le_refl _)) ht2)
  have Hb2 := Lib.hid (Hb1.out.trans (hb2.mono Hb1.out.size))
  clear ht2 hb2 hrp Hb1
  go_wp2_with fail
  refine (hct.out w2).mono ?_
  rintro e w3 ⟨rfl, rfl⟩
  clear hct
  go_wp2_with fail
  go_loopw [9] (fun i wr => ∃ k : Nat, i = .int .i64 k ∧ k ≤ K ∧ Hid (TxS wr a1 (chs V) ∧ TxS wr a2 (chs V)) ∧ Hid (Below w.heap.size w wr)) (fun i _ => K - (intOf i).toNat)
  case atStart => exact ⟨0, rfl, by omega, Ht1.out, Hb2.out⟩
  case round =>
    obtain ⟨k, rfl, hk, hT, hB⟩ := hrel
    by_cases hlt : k < K
    · obtain ⟨g1, o1, rfl, hc1⟩ := hT.out.1 (by rw [hlen.out]; omega)
      obtain ⟨g2, o2, rfl, hc2⟩ := hT.out.2 (by rw [hlen.out]; omega)
      have q1 := hc1 k (by rw [hlen.out]; exact hlt)
      have q2 := hc2 k (by rw [hlen.out]; exact hlt)
      have l1 := block_lt_of_cell q1
      have l2 := block_lt_of_cell q2
      have r1 : ∀ w', Ext wr.drew w' → w'.cell? ⟨g1, o1 + k, none⟩ = some (.string (sa (chs V) k)) := fun w' hw => by
        rw [((Below.refl wr.heap.size wr).drew.trans hw).cell (p := ⟨g1, o1 + k, none⟩) l1]; exact q1
      have r2 : ∀ w', Ext wr.drew w' → w'.cell? ⟨g2, o2 + k, none⟩ = some (.string (sa (chs V) k)) := fun w' hw => by
        rw [((Below.refl wr.heap.size wr).drew.trans hw).cell (p := ⟨g2, o2 + k, none⟩) l2]; exact q2
      have dr : Below wr.heap.size wr wr.drew := (Below.refl _ _).drew
      have hTd : Hid (TxS wr.drew (some ⟨g1, o1, none⟩) (chs V) ∧ TxS wr.drew (some ⟨g2, o2, none⟩) (chs V)) := ⟨hT.out.1.below dr (Nat.le_refl _), hT.out.2.below dr (Nat.le_refl _)⟩
      have hBd : Hid (Below w.heap.size w wr.drew) := hB.out.drew
      have i1 : (k : Int) < (K : Int) := by omega
      generalize sa (chs V) k = y at *
      clear hc1 hc2 q1 q2 l1 l2 hT hB dr
      go_wp2_with fail
      refine wp_region_gr [(0, true), (1, true), (2, true), (3, true), (4, true), (5, true), (6, true), (7, true), (8, true)] (by kernel_rfl) (by kernel_rfl) (by kernel_rfl) (by kernel_rfl) (fun _ _ _ _ _ h => h) ?_
      iterate 9 (refine wpGr_read (o := ⟨_, _, _, _, _, _⟩) (v := ?_) rfl (by rfl) ?_ ?_; rotate_left; (intro w' hw'; go_simp; with_reducible rfl); simp only [Act.put, List.setIfInBounds_toArray, List.set_cons_zero, List.set_cons_succ])
      refine wpGr_done ?_
      go_wp2
      go_roundw
      case rel => exact ⟨k + 1, by go_num, by omega, hTd.out, hBd.out⟩
      case measure => simp [intOf]; omega
    · obtain rfl : k = K := by omega
      clear hT Ht1 Hb2
      go_wp2_with fail
      refine (henc.out wr).mono ?_
      rintro e w4 ⟨v4, rfl, ho4, hb4⟩
      have Ho4 := Lib.hid ho4
      have hB4 := Lib.hid (hB.out.trans (hb4.mono hB.out.size))
      clear ho4 hb4 henc hB
      go_wp2_with fail
      refine (hrenc.out w4).mono ?_
      rintro e w5 ⟨v5, rfl, ho5, hb5⟩
      replace Ho4 := Lib.hid (And.intro (own_below Ho4.out hb5 (Nat.le_refl _)) ho5)
      have hB5 := Lib.hid (hB4.out.trans (hb5.mono hB4.out.size))
      clear ho5 hb5 hrenc hB4
      go_wp2_with fail
      refine (hdec.out w5 hB5).mono ?_
      rintro e w6 ⟨rfl, hb6⟩
      replace Ho4 := Lib.hid (And.intro (own_below Ho4.out.1 hb6 (Nat.le_refl _)) (own_below Ho4.out.2 hb6 (Nat.le_refl _)))
      have hB6 := Lib.hid (hB5.out.trans (hb6.mono hB5.out.size))
      clear hb6 hdec hB5
      go_wp2_with fail
      refine (hrdec.out w6 hB6).mono ?_
      rintro e w7 ⟨rfl, hb7⟩
      replace Ho4 := Lib.hid (And.intro (own_below Ho4.out.1 hb7 (Nat.le_refl _)) (own_below Ho4.out.2 hb7 (Nat.le_refl _)))
      have hB7 := Lib.hid (hB6.out.trans (hb7.mono hB6.out.size))
      clear hb7 hrdec hB6
      have cv1 := conv_own (P := Tryd.prog) CBS CU8 CST2 Tryd.underlying22 Tryd.underlying5 Tryd.underlying9 _ v4 EB w7 Ho4.out.1
      have cv2 := conv_own (P := Tryd.prog) CBS CU8 CST2 Tryd.underlying22 Tryd.underlying5 Tryd.underlying9 _ v5 EB w7 Ho4.out.2
      generalize bstr EB = EBs at *
      clear Ho4
      go_wp2_with fail
      refine (Num.out w7 EE hB7).mono ?_
      rintro e w8 ⟨rfl, hb8⟩
      have hB8 := Lib.hid (hB7.out.trans (hb8.mono hB7.out.size))
      clear hb8 hB7 cv1 cv2
      go_wp2_with fail
      refine (Num.out w8 DE hB8).mono ?_
      rintro e w9 ⟨rfl, hb9⟩
      have hB9 := Lib.hid (hB8.out.trans (hb9.mono hB8.out.size))
      clear hb9 hB8
      by_cases hpos : 0 < p
      · have d3 : decide (0 < p) = true := decide_eq_true hpos
        clear hcp
        go_wp2_with fail
        refine (Fin.out w9 hB9).mono ?_
        rintro e w10 ⟨rfl, hb10⟩
        have Hbx := Lib.hid (hB9.out.trans (hb10.mono hB9.out.size))
        clear hb10
        go_wp2
        go_ret
        exact ⟨rfl, Hbx.out⟩
      · have d3 : decide (0 < p) = false := decide_eq_false hpos
        have hc0 : Hid (cntS p = 0) := by show _ = _; unfold cntS; rw [if_pos (by omega)]
        rw [hc0.out] at hcp
        go_wp2_with fail
        refine (hcp.out w9).mono ?_
        rintro e w10 ⟨rfl, rfl⟩
        clear hcp
        go_wp2_with fail
        refine (Fin.out w9 hB9).mono ?_
        rintro e w10 ⟨rfl, hb10⟩
        have Hbx := Lib.hid (hB9.out.trans (hb10.mono hB9.out.size))
        clear hb10
        go_wp2
        go_ret
        exact ⟨rfl, Hbx.out⟩
end Go.Proofs.YthkephndhhhacaaDoor
