/-
  BranchBack: the law's walk.
-/
import Derived.Test.YtjlllkdimfkjaaaDoorSure9
import Derived.Test.YtjlllkdimfkjaaaDoorForks
import Derived.Deep.CutBlock
import Derived.Deep.DeepCutAuto
namespace Go.Proofs.YtjlllkdimfkjaaaDoor
open Go Go.RowKit

theorem errV_n (k : Nat) (h : k ≠ 0) : errV k = .iface 47 (.int .i64 k) := by unfold errV; rw [if_neg h]
set_option maxRecDepth 100000 in
set_option maxHeartbeats 4000000 in
theorem back_any (a b : Option Addr) (n c m d : Nat) (ks : List ByteArray) (is : List Int) (key : ByteArray) (w : World) (hn : ks.length = n) (hm : is.length = m) (hs : TxS w a ks) (hp : PgS w b is) (hl : n ≤ 9223372036854775807) (hl2 : m ≤ 9223372036854775807) (hg : Hg w) :
    Calls Tryd.prog 4 #[.agg #[.slice a n c, .slice b m d], .string key] w fun e w' => e = .returned (.bool true) ∧ Below w.heap.size w w' := by
  have HG := Lib.hid hg
  have Hn := Lib.hid (And.intro hn hm)
  have Hs := Lib.hid (And.intro hs hp)
  obtain ⟨w0, hw0⟩ : ∃ w0, w0 = (w.alloc (.cells #[.slice a n c, .slice b m d] RFK)).alloc (.cells #[.slice a n c, .slice b m d] FT) := ⟨_, rfl⟩
  have e0 : (w.alloc (.cells #[.slice a n c, .slice b m d] RFK)).heap.size = w.heap.size + 1 := by simp
  have hb0 : Hid (Below w.heap.size w w0) := by rw [hw0]; exact ((Below.refl _ _).alloc (Nat.le_refl _) _).alloc (by simp) _
  have hF0 : Hid (PB w0 w.heap.size RFK (.slice a n c) (.slice b m d)) := by rw [hw0]; exact (PB.new _ _ _ _).stay _
  have hX0 : Hid (PB w0 (w.heap.size + 1) FT (.slice a n c) (.slice b m d)) := by rw [hw0, ← e0]; exact PB.new _ _ _ _
  have hw0' := Lib.hid hw0.symm
  have hbig := Lib.hid (big_any a b n c m d ks w0 hn (hs.below hb0.out (Nat.le_refl _)) hl hl2)
  have fin : ∀ w5 : World, Hid (Below w.heap.size w w5) → Calls Tryd.prog 6 #[] w5 fun e w' => e = .returned (.bool true) ∧ Below w.heap.size w w' := fun w5 h5 =>
    (sure_any w5 (HG.out.below h5.out)).mono fun _ _ h => ⟨h.1, h5.out.trans (h.2.mono h5.out.size)⟩
  have Fin := Lib.hid fin
  have num : ∀ (wx : World) (k : Int), Hid (Below w.heap.size w wx) → Calls Tryd.prog 11 #[.iface 47 (.int .i64 k)] wx fun e w' => e = .returned (.int .i64 k) ∧ Below w.heap.size w w' := fun wx k hb =>
    (num_err k wx (HG.out.below hb.out)).mono fun _ _ h => ⟨h.1, hb.out.trans (h.2.mono hb.out.size)⟩
  have Num := Lib.hid num
  have k0 := hF0.out.c0
  have k1 := hF0.out.c1
  clear hg hn hm hs hp hw0 e0 fin num
  go_enter Tryd.func4, Tryd.ntmps4
  go_wp2_with fail
  rw [hw0'.out]
  refine hbig.out.mono ?_
  rintro e w1 ⟨D, rfl, hD, hb1⟩
  have HD := Lib.hid hD
  have hF1 := Lib.hid (hF0.out.ext hb1)
  have hX1 := Lib.hid (hX0.out.ext hb1)
  have hB1 := Lib.hid (hb0.out.trans (hb1.mono hb0.out.size))
  clear hD hb1 hbig hF0 hX0 hb0 k0 k1 hw0'
  cases D with
  | true =>
    go_wp2_with fail
    refine (Fin.out w1 hB1).mono ?_
    rintro e w2 ⟨rfl, hb⟩
    have Hb := Lib.hid hb
    clear hb
    go_wp2
    go_ret
    exact ⟨rfl, Hb.out⟩
  | false =>
  have hn200 : n ≤ 200 := (HD.out rfl).1
  have hm200 : m ≤ 200 := (HD.out rfl).2
  have k0 := hX1.out.c0
  have k1 := hX1.out.c1
  have hch := Lib.hid (brCheck_any a b n c m d ks is w1 Hn.out.1 Hn.out.2 (Hs.out.1.below hB1.out (Nat.le_refl _)) (Hs.out.2.below hB1.out (Nat.le_refl _)) (by omega) (by omega))
  clear HD hl hl2
  go_wp2_with fail
  refine hch.out.mono ?_
  rintro e w2 ⟨D, rfl, hD, hb2⟩
  have HD := Lib.hid hD
  have hF2 := Lib.hid (hF1.out.ext hb2)
  have hX2 := Lib.hid (hX1.out.ext hb2)
  have hB2 := Lib.hid (hB1.out.trans (hb2.mono hB1.out.size))
  clear hD hb2 hch hF1 hX1 hB1 k0 k1
  unfold chkF
  cases D with
  | false =>
    simp only [Bool.false_eq_true, if_false]
    go_wp2_with fail
    refine (Fin.out w2 hB2).mono ?_
    rintro e w3 ⟨rfl, hb⟩
    have Hb := Lib.hid hb
    clear hb
    go_wp2
    go_ret
    exact ⟨rfl, Hb.out⟩
  | true =>
  have hmay := Lib.hid (HD.out.1 rfl)
  simp only [if_true]
  have k0 := hX2.out.c0
  have hwy := Lib.hid (brWay_any a n c ks key w2 Hn.out.1 (Hs.out.1.below hB2.out (Nat.le_refl _)) hmay.out.1 (by omega))
  have hwl : Hid (∀ i, i < wayS ks key → blt key (sa ks i) = false) := wayS_lt ks key
  have hwa : Hid (wayS ks key < n → blt key (sa ks (wayS ks key)) = true) := fun h => wayS_at ks key (by rw [Hn.out.1]; exact h)
  have hwn : wayS ks key ≤ n := by have := wayS_le ks key; rw [Hn.out.1] at this; exact this
  generalize wayS ks key = F at *
  clear HD
  go_wp2_with fail
  refine hwy.out.mono ?_
  rintro e w3 ⟨rfl, hb3⟩
  have hF3 := Lib.hid (hF2.out.ext hb3)
  have hX3 := Lib.hid (hX2.out.ext hb3)
  have hB3 := Lib.hid (hB2.out.trans (hb3.mono hB2.out.size))
  clear hb3 hwy hF2 hX2 hB2 k0
  have k0 := hX3.out.c0
  go_upto_region 5 with fail
  go_cut [64] (fun s64 wx => s64 = .bool false ∧ wx = w3)
  case first =>
    have d1 : decide ((F : Int) < 0) = false := decide_eq_false (by omega)
    have d2 : decide ((n : Int) < (F : Int)) = false := decide_eq_false (by omega)
    have d2' : decide (n < F) = false := decide_eq_false (by omega)
    rcases Nat.eq_zero_or_pos F with h0 | h0
    · subst h0
      by_cases h2 : 0 < n
      · have e1 : decide ((0 : Int) < (n : Int)) = true := decide_eq_true (by omega)
        have e1' : decide (0 < n) = true := decide_eq_true h2
        obtain ⟨g, o, rfl, hcell⟩ := Hs.out.1.below hB3.out (Nat.le_refl _) (by rw [Hn.out.1]; omega)
        have q0 := hcell 0 (by rw [Hn.out.1]; exact h2)
        rw [Nat.add_zero] at q0
        have hle := ble_eq (sa ks 0) key
        rw [hwa.out h2] at hle
        generalize sa ks 0 = y at *
        have n63 : (0 : Int) < (n : Int) := by omega
        clear hcell
        go_wp2_with fail
        go_meet
        exact ⟨rfl, rfl⟩
      · obtain rfl : n = 0 := by omega
        go_wp2_with fail
        go_meet
        exact ⟨rfl, rfl⟩
    · obtain ⟨j, rfl⟩ : ∃ j, F = j + 1 := ⟨F - 1, by omega⟩
      obtain ⟨g, o, rfl, hcell⟩ := Hs.out.1.below hB3.out (Nat.le_refl _) (by rw [Hn.out.1]; omega)
      have q0 := hcell j (by rw [Hn.out.1]; omega)
      have hgt := bgt_eq (sa ks j) key
      rw [hwl.out j (by omega)] at hgt
      have hq1 : Hid (j + 1 < n → w3.cell? ⟨g, o + (j + 1), none⟩ = some (.string (sa ks (j + 1)))) := fun h => hcell (j + 1) (by rw [Hn.out.1]; exact h)
      generalize sa ks j = z at *
      have i1 : (0 : Int) ≤ (j : Int) + 1 := by omega
      have i3 : (j : Int) < (n : Int) := by omega
      have i4 : IntKind.i64.wrap (j : Int) = (j : Int) := by rw [IntKind.wrap_i64]; omega
      have i5 : (0 : Int) < (j : Int) + 1 := by omega
      have c1 : decide ((j : Int) + 1 < 0) = false := decide_eq_false (by omega)
      have c2 : decide ((n : Int) < (j : Int) + 1) = false := decide_eq_false (by omega)
      by_cases h2 : j + 1 < n
      · have e1 : decide ((j : Int) + 1 < (n : Int)) = true := decide_eq_true (by omega)
        have e1' : decide (j + 1 < n) = true := decide_eq_true h2
        have q1 := hq1.out h2
        have hle := ble_eq (sa ks (j + 1)) key
        rw [hwa.out h2] at hle
        have i2 : (j : Int) + 1 < (n : Int) := by omega
        generalize sa ks (j + 1) = y at *
        clear hcell
        go_wp2_with fail
        go_meet
        exact ⟨rfl, rfl⟩
      · obtain rfl : n = j + 1 := by omega
        have e1 : decide ((j : Int) + 1 < ((j + 1 : Nat) : Int)) = false := decide_eq_false (by omega)
        have e1' : decide (j + 1 < j + 1) = false := decide_eq_false (by omega)
        clear hcell
        go_wp2_with fail
        go_meet
        exact ⟨rfl, rfl⟩
  case rest =>
    obtain ⟨rfl, hwc⟩ := hcut
    rw [hwc]
    clear hwc wc hwl hwa hwn
    have k1 := hX3.out.c1
    have henc := Lib.hid (brEncode_any a b n c m d ks is w3 Hn.out.1 Hn.out.2 (Hs.out.1.below hB3.out (Nat.le_refl _)) (Hs.out.2.below hB3.out (Nat.le_refl _)) (by omega) (by omega))
    have hll : Hid ((forkS ks is).length = sizeTo ks n) := by show _ = _; rw [fork_len hmay.out.1, Hn.out.1]
    have hcut := Lib.hid (decFS_cut hmay.out)
    have hb8 : Hid (B8 (forkS ks is)) := putF_b8 ks is _
    have hpos : Hid (2 ≤ (forkS ks is).length) := by
      obtain ⟨mm, hmm⟩ := putF_two ks is ks.length
      show 2 ≤ _
      unfold forkS; rw [hmm, List.length_append]; show 2 ≤ 2 + _; omega
    by_cases hlong : 504 < (forkS ks is).length
    · have he := encF_5 hmay.out hlong
      rw [he.1] at henc
      have hLL : 504 < sizeTo ks n := by have := hll.out; omega
      have hsz := Lib.hid (fun w' (hb : Hid (Below w.heap.size w w')) => brSize_any a n c ks w' Hn.out.1 (Hs.out.1.below hb.out (Nat.le_refl _)) (by omega) hmay.out.1)
      generalize sizeTo ks n = LL at *
      have d1 : decide (504 < (LL : Int)) = true := decide_eq_true (by omega)
      clear he hlong hcut hb8 hpos hll
      rw [errV_n 5 (by decide)] at henc
      go_wp2_with fail
      refine henc.out.mono ?_
      rintro e w4 ⟨v, rfl, _, hb4⟩
      have hX4 := Lib.hid (hX3.out.ext hb4)
      have hB4 := Lib.hid (hB3.out.trans (hb4.mono hB3.out.size))
      clear hb4 henc hX3 hB3 hF3 k0 k1
      have k0 := hX4.out.c0
      go_wp2_with fail
      refine (hsz.out w4 hB4).mono ?_
      rintro e w5 ⟨rfl, hb5⟩
      have hB5 := Lib.hid (hB4.out.trans (hb5.mono hB4.out.size))
      clear hb5 hsz hX4 hB4 k0
      go_wp2_with fail
      refine (Num.out w5 5 hB5).mono ?_
      rintro e w6 ⟨rfl, hb6⟩
      have hB6 := Lib.hid hb6
      clear hb6 hB5
      go_wp2_with fail
      refine (Fin.out w6 hB6).mono ?_
      rintro e w7 ⟨rfl, hb⟩
      have Hb := Lib.hid hb
      clear hb
      go_wp2
      go_ret
      exact ⟨rfl, Hb.out⟩
    · have he := encF_0 hmay.out (by omega)
      rw [he.1, he.2, errV_0] at henc
      have hdl := Lib.hid (decF_yes (decFS_load hmay.out (by omega)))
      have hdc := Lib.hid (decF_no hcut.out)
      have hsz := Lib.hid (fun w' (hb : Hid (Below w.heap.size w w')) => brSize_any a n c ks w' Hn.out.1 (Hs.out.1.below hb.out (Nat.le_refl _)) (by omega) hmay.out.1)
      generalize sizeTo ks n = LL at *
      obtain ⟨LD, hLD⟩ : ∃ LD, LD = forkS ks is := ⟨_, rfl⟩
      rw [← hLD] at henc hdl hdc hll hb8 hpos hlong
      have hLL504 : LL ≤ 504 := by have := hll.out; omega
      have hLL2 : 2 ≤ LL := by have := hll.out; have := hpos.out; omega
      have d1 : decide (504 < (LL : Int)) = false := decide_eq_false (by omega)
      clear he hlong hcut hLD hpos
      go_wp2_with fail
      refine henc.out.mono ?_
      rintro e w4 ⟨v, rfl, hv, hb4⟩
      have hX4 := Lib.hid (hX3.out.ext hb4)
      have hF4 := Lib.hid (hF3.out.ext hb4)
      have hB4 := Lib.hid (hB3.out.trans (hb4.mono hB3.out.size))
      obtain ⟨ab, cb, rfl, hsb, hzb, hlcb, hcmb⟩ := hv.arg
      rw [hll.out] at hlcb ⊢
      have Hsb := Lib.hid hsb
      have Hzb := Lib.hid hzb
      have hcb2 : cb ≤ 9223372036854775807 := by unfold maxLen at hcmb; omega
      clear hb4 henc hX3 hB3 hF3 k0 k1 hv hsb hzb hcmb
      have k0 := hX4.out.c0
      go_wp2_with fail
      refine (hsz.out w4 hB4).mono ?_
      rintro e w5 ⟨rfl, hb5⟩
      have hX5 := Lib.hid (hX4.out.ext hb5)
      have hF5 := Lib.hid (hF4.out.ext hb5)
      have hB5 := Lib.hid (hB4.out.trans (hb5.mono hB4.out.size))
      have Hsb5 := Lib.hid (Hsb.out.below hb5 (Nat.le_refl _))
      have hdec := Lib.hid (brDecode_any ab LL cb LD w5 hll.out Hsb5.out Hzb.out (by omega) hb8.out)
      rw [hdl.out.1, hdl.out.2.1, hdl.out.2.2, errV_0] at hdec
      clear hb5 hX4 hB4 hF4 k0 Hsb
      go_wp2_with fail
      refine hdec.out.mono ?_
      rintro e w6 ⟨u, v, rfl, hu, hv, hb6⟩
      obtain ⟨a6, c6, rfl, ht6, _⟩ := hu
      obtain ⟨b6, e6, rfl, hp6, _⟩ := hv
      rw [Hn.out.1, Hn.out.2]
      obtain ⟨w7, hw7⟩ : ∃ w7, w7 = w6.alloc (.cells #[.slice a6 n c6, .slice b6 m e6] FT) := ⟨_, rfl⟩
      have hb67 : Below w6.heap.size w6 w7 := by rw [hw7]; exact (Below.refl _ _).alloc (Nat.le_refl _) _
      have hY7 : Hid (PB w7 w6.heap.size FT (.slice a6 n c6) (.slice b6 m e6)) := by rw [hw7]; exact PB.new _ _ _ _
      have hb57 : Below w5.heap.size w5 w7 := hb6.trans (hb67.mono hb6.size)
      have hX7 := Lib.hid (hX5.out.ext hb57)
      have hF7 := Lib.hid (hF5.out.ext hb57)
      have hB7 := Lib.hid (hB5.out.trans (hb57.mono hB5.out.size))
      have Hsb7 := Lib.hid (Hsb5.out.below hb57 (Nat.le_refl _))
      have Hy := Lib.hid (And.intro (ht6.below hb67 (Nat.le_refl _)) (hp6.below hb67 (Nat.le_refl _)))
      have hw7' := Lib.hid hw7.symm
      clear ht6 hp6 hb6 hw7 hb67 hb57 hX5 hF5 hB5 Hsb5 hdec
      obtain ⟨mm, hmm⟩ : ∃ mm, LL = mm + 1 := ⟨LL - 1, by omega⟩
      have hdec2 := Lib.hid (brDecode_any ab mm cb (LD.take (LD.length - 1)) w7 (by rw [List.length_take, hll.out]; omega) (by
        intro h0
        rw [List.length_take] at h0
        obtain ⟨g, o, e, hc⟩ := Hsb7.out (by omega)
        exact ⟨g, o, e, hc.start _⟩) Hzb.out (by omega) (hb8.out.take _))
      rw [hdc.out.1, hdc.out.2.1, hdc.out.2.2, errV_n 3 (by decide)] at hdec2
      have e1 : (LL : Int) - 1 = (mm : Int) := by omega
      have e2 : IntKind.i64.wrap ((LL : Int) - 1) = (mm : Int) := by rw [IntKind.wrap_i64]; omega
      have e3 : max (0 : Int) (mm : Int) = (mm : Int) := by omega
      have e4 : (mm : Int) ≤ (cb : Int) := by omega
      have Hmm := Lib.hid hmm
      clear hmm hdl hdc
      go_upto_region 11 with fail
      rw [hw7'.out]
      go_wp2_with fail
      refine hdec2.out.mono ?_
      rintro e w8 ⟨u8, v8, rfl, hu8, hv8, hb8'⟩
      obtain ⟨a8, c8, rfl, _⟩ := hu8
      obtain ⟨b8, e8, rfl, _⟩ := hv8
      obtain ⟨w9, hw9⟩ : ∃ w9, w9 = w8.alloc (.cells #[.slice a8 0 c8, .slice b8 0 e8] FT) := ⟨_, rfl⟩
      have hb79 : Below w7.heap.size w7 w9 := by rw [hw9]; exact hb8'.alloc hb8'.size _
      have hX9 := Lib.hid (hX7.out.ext hb79)
      have hF9 := Lib.hid (hF7.out.ext hb79)
      have hY9 := Lib.hid (hY7.out.ext hb79)
      have hB9 := Lib.hid (hB7.out.trans (hb79.mono hB7.out.size))
      have hw9' := Lib.hid hw9.symm
      have hif := Lib.hid (isFork_any a6 b6 a b n c6 m e6 c d ks is w9 Hn.out.1 Hn.out.2 (Hy.out.1.below hb79 (Nat.le_refl _)) (Hy.out.2.below hb79 (Nat.le_refl _)) (Hs.out.1.below hB9.out (Nat.le_refl _)) (Hs.out.2.below hB9.out (Nat.le_refl _)) (by omega) (by omega))
      clear hb8' hb79 hw9 hX7 hF7 hY7 hB7 Hsb7 hdec2 e1 e2 e3 e4 Hy hw7'
      have y0 := hY9.out.c0
      have y1 := hY9.out.c1
      have k0 := hF9.out.c0
      have k1 := hF9.out.c1
      rw [show ([] : List ByteArray).length = 0 from rfl, show ([] : List Int).length = 0 from rfl]
      go_upto_region 12 with fail
      rw [hw9'.out]
      go_wp2_with fail
      refine hif.out.mono ?_
      rintro e w10 ⟨rfl, hb10⟩
      have hX10 := Lib.hid (hX9.out.ext hb10)
      have hB10 := Lib.hid (hB9.out.trans (hb10.mono hB9.out.size))
      clear hb10 hif hX9 hF9 hY9 hB9 y0 y1 k0 k1 hw9'
      have k0 := hX10.out.c0
      go_wp2_with fail
      refine (hsz.out w10 hB10).mono ?_
      rintro e w11 ⟨rfl, hb11⟩
      have hB11 := Lib.hid (hB10.out.trans (hb11.mono hB10.out.size))
      clear hb11 hsz hX10 hB10 k0
      go_wp2_with fail
      refine (Num.out w11 3 hB11).mono ?_
      rintro e w12 ⟨rfl, hb12⟩
      have hB12 := Lib.hid hb12
      clear hb12 hB11
      go_wp2_with fail
      refine (Fin.out w12 hB12).mono ?_
      rintro e w13 ⟨rfl, hb⟩
      have Hb := Lib.hid hb
      clear hb
      go_wp2
      go_ret
      exact ⟨rfl, Hb.out⟩
end Go.Proofs.YtjlllkdimfkjaaaDoor
