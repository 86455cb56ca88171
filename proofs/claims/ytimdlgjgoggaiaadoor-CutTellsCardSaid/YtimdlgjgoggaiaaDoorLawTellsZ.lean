/-
  CutTells.
-/
import Derived.Test.YtimdlgjgoggaiaaDoorCutLawZ
import Derived.Test.YtimdlgjgoggaiaaDoorRefRowsZ
import Derived.Test.YtimdlgjgoggaiaaDoorCRowsZ
import Derived.Test.YtimdlgjgoggaiaaDoorNearZ
namespace Go.Proofs.YtimdlgjgoggaiaaDoor
open Go Go.RowKit

set_option maxHeartbeats 4000000 in
set_option maxRecDepth 100000 in
theorem tells_any (n0 m0 : Nat) (lo hi : ByteArray) (op : Bool) (most : Int) (back : Bool) (nx ny : Nat) (w : World) (h1 : n0 < 65536) (h2 : m0 < 65536) (hmost : -9223372036854775808 ≤ most ∧ most ≤ 9223372036854775807) (h3 : nx < 65536) (h4 : ny < 65536) (hg : Hg w) :
    Calls Tryd.prog 3 #[.agg #[.int .u16 n0, .int .u16 m0], .agg #[.string lo, .string hi, .bool op], .agg #[.int .i64 most, .bool back, .int .u16 nx, .int .u16 ny]] w fun e w' => e = .returned (.bool true) ∧ Below w.heap.size w w' := by
  have Hg0 : Hid (∀ {w'}, Below w.heap.size w w' → Hg w') := fun h => hg.below h
  have Hmost := Lib.hid hmost
  obtain ⟨W0, hW0, k1, k2, k3, hb0, hz0⟩ := three_own w #[.int .u16 n0, .int .u16 m0] #[.string lo, .string hi, .bool op] #[.int .i64 most, .bool back, .int .u16 nx, .int .u16 ny] ARR RSP ASK
  obtain ⟨N0, hN0⟩ : ∃ N0, n0 % 160 = N0 := ⟨_, rfl⟩
  have eN : (n0 : Int).tmod 160 = (N0 : Int) := by rw [Int.tmod_eq_emod_of_nonneg (by omega)]; omega
  have wN : IntKind.i64.wrap (N0 : Int) = (N0 : Int) := by rw [IntKind.wrap_i64]; omega
  have wM : IntKind.i64.wrap (m0 : Int) = (m0 : Int) := by rw [IntKind.wrap_i64]; omega
  have Hgr := Lib.hid (grown_any N0 m0 W0 (by omega) (by omega) (Hg0.out hb0))
  have SP0 : Hid (SpIn W0 (w.heap.size + 1) RSP ⟨lo, hi, op⟩) := k2
  have A0 : Hid (AB W0 (w.heap.size + 1 + 1) most back nx ny) := k3
  have HB0 := Lib.hid hb0
  have HW0 := Lib.hid hW0
  have HN9 : Hid (N0 ≤ 200) := by show _ ≤ _; omega
  have Hz0 := Lib.hid hz0
  obtain ⟨bs, hbs⟩ : ∃ bs, w.heap.size + 1 = bs := ⟨_, rfl⟩
  obtain ⟨ba, hba⟩ : ∃ ba, bs + 1 = ba := ⟨_, rfl⟩
  have Hbs := Lib.hid (And.intro hbs hba)
  rw [hbs] at SP0
  rw [hbs, hba] at A0
  clear hW0 k1 k2 k3 hb0 hz0 hN0 hg hmost hbs hba
  go_enter Tryd.func3, Tryd.ntmps3
  go_wp2_with fail
  rw [HW0.out, Hbs.out.1, Hbs.out.2]
  refine Hgr.out.mono ?_
  rintro e w1 ⟨p, H, es, l, rfl, ht, hl, hlen, hb1⟩
  replace ht := ht.tp
  obtain ⟨al, N, cl, rfl, hls, hlN, hlc⟩ := ev_ct hl
  rw [hlN]
  obtain ⟨W1, hW1, hn1, hbW1⟩ := alloc_own w1 TT #[.pointer p, .int .i64 N]
  obtain ⟨bt, hbt⟩ : ∃ bt, w1.heap.size = bt := ⟨_, rfl⟩
  rw [hbt] at hn1
  have hb01 := HB0.out.trans (hb1.mono HB0.out.size)
  have X : Hid (CT w W1 bt p es N H al cl) := ⟨hn1, ht.ext hbW1, hls.below hbW1 (Nat.le_refl _), hlN, by have := HN9.out; omega, hlc, hb01.trans (hbW1.mono hb01.size)⟩
  have SP := Lib.hid ((SP0.out.ext hb1).ext hbW1)
  have A := Lib.hid ((A0.out.ext hb1).ext hbW1)
  have hne1 : bt ≠ bs := by have h5 := SP0.out.lt; have h6 := hb1.size; omega
  have hne2 : ba ≠ bs := by have := Hbs.out.2; omega
  have Hne := Lib.hid (And.intro hne1 (And.intro hne2 (show w.heap.size ≤ bs by have := Hbs.out.1; omega)))
  have HW1 := Lib.hid hW1
  have Hbt := Lib.hid hbt
  have hN6 : N ≤ 200 := X.out.hl
  have t0 := X.out.t.c0
  have t1 := X.out.t.c1
  have s0 := SP.out.c0
  have s1 := SP.out.c1
  have s2 := SP.out.c2
  have a0 := A.out.c0
  have a1 := A.out.c1
  have a2 := A.out.c2
  have a3 := A.out.c3
  rw [← hW1] at t0 t1 s0 s1 s2 a0 a1 a2 a3
  clear hW1 hn1 hbW1 hb01 hb1 ht hl hlen hls hlN hlc Hgr HB0 HW0 SP0 A0 hne1 hne2 hbt
  by_cases g1 : 100 < lo.size
  · have d1 : decide (100 < (lo.size : Int)) = true := decide_eq_true (by omega)
    have Hsu := Lib.hid (sure_any W1 (Hg0.out X.out.b))
    go_wp2_with fail
    rw [HW1.out]
    refine Hsu.out.mono ?_
    rintro e w2 ⟨rfl, hb2⟩
    have HB := Lib.hid (X.out.b.trans (hb2.mono X.out.b.size))
    clear hb2 Hsu t0 t1 s0 s1 s2 a0 a1 a2 a3
    go_wp2_with fail
    go_ret
    exact ⟨rfl, HB.out⟩
  · have d1 : decide (100 < (lo.size : Int)) = false := decide_eq_false (by omega)
    by_cases g2 : 100 < hi.size
    · have d2 : decide (100 < (hi.size : Int)) = true := decide_eq_true (by omega)
      have Hsu := Lib.hid (sure_any W1 (Hg0.out X.out.b))
      go_wp2_with fail
      rw [HW1.out]
      refine Hsu.out.mono ?_
      rintro e w2 ⟨rfl, hb2⟩
      have HB := Lib.hid (X.out.b.trans (hb2.mono X.out.b.size))
      clear hb2 Hsu t0 t1 s0 s1 s2 a0 a1 a2 a3
      go_wp2_with fail
      go_ret
      exact ⟨rfl, HB.out⟩
    · have d2 : decide (100 < (hi.size : Int)) = false := decide_eq_false (by omega)
      have Hnr := near_any ⟨lo, hi, op⟩ al N cl es nx ny W1 X.out.hn X.out.l (by omega) h3 h4
      obtain ⟨sp, hsp⟩ : ∃ sp, nearS ⟨lo, hi, op⟩ es nx ny = sp := ⟨_, rfl⟩
      rw [hsp] at Hnr
      obtain ⟨lo2, hi2, op2⟩ := sp
      unfold Sp.v at Hnr
      have Hnr := Lib.hid Hnr
      clear hsp
      go_wp2_with fail
      rw [HW1.out, Hbt.out]
      refine Hnr.out.mono ?_
      rintro e w2 ⟨rfl, hb2⟩
      clear t0 t1 s0 s1 s2 a0 a1 a2 a3
      replace X := Lib.hid (X.out.ext hb2)
      replace SP := Lib.hid (SP.out.ext hb2)
      replace A := Lib.hid (A.out.ext hb2)
      have f0 := SP.out.fz 0
      have f1 := SP.out.fz 1
      have f2 := SP.out.fz 2
      have y0 := SP.out.c0
      have y1 := SP.out.c1
      have y2 := SP.out.c2
      obtain ⟨W2, hW2⟩ : ∃ W2, ((w2.setCell ⟨bs, 0, none⟩ (.string lo2)).setCell ⟨bs, 1, none⟩ (.string hi2)).setCell ⟨bs, 2, none⟩ (.bool op2) = W2 := ⟨_, rfl⟩
      have tn := turn3 w2 bs (.string lo2) (.string hi2) (.bool op2)
      have sp3 := SP.out.put3 ⟨lo2, hi2, op2⟩
      have hF : TF w2 (fun i => i = bs) := TF.var (h := (SP.out : w2.heap[bs]? = _))
      have x3 := X.out.turn tn hF Hne.out.1 Hne.out.2.2
      have a3' := A.out.turn tn Hne.out.2.1
      rw [hW2] at sp3 x3 a3'
      replace X := Lib.hid x3
      replace A := Lib.hid a3'
      have SP := Lib.hid sp3
      have HW2 := Lib.hid hW2
      have t0 := X.out.t.c0
      have t1 := X.out.t.c1
      have s0 := SP.out.c0
      have s1 := SP.out.c1
      have s2 := SP.out.c2
      have a0 := A.out.c0
      have a1 := A.out.c1
      have a2 := A.out.c2
      have a3 := A.out.c3
      rw [← hW2] at t0 t1 s0 s1 s2 a0 a1 a2 a3
      dsimp only at s0 s1 s2
      have Hrw := rows_any p N es H ⟨lo2, hi2, op2⟩ most back W2 X.out.tr (by have := X.out.hn; omega)
      obtain ⟨DM, hDM⟩ : ∃ DM, rowsM ⟨lo2, hi2, op2⟩ es most = DM := ⟨_, rfl⟩
      have HDM := Lib.hid hDM
      rw [hDM] at Hrw
      unfold Sp.v at Hrw
      have Hrw := Lib.hid Hrw
      clear hb2 tn sp3 hF x3 a3' hW2 hDM HW1 Hbt Hnr
      go_wp2_with fail
      rw [HW2.out]
      refine Hrw.out.mono ?_
      rintro e w3 ⟨u1, rfl, hev1, hb3⟩
      obtain ⟨b1, N1, c1, rfl, hE1⟩ := ev_lt hev1
      have E1 := Lib.hid hE1
      clear t0 t1 s0 s1 s2 a0 a1 a2 a3
      replace X := Lib.hid (X.out.ext hb3)
      replace SP := Lib.hid (SP.out.ext hb3)
      replace A := Lib.hid (A.out.ext hb3)
      have t0 := X.out.t.c0
      have t1 := X.out.t.c1
      have s0 := SP.out.c0
      have s1 := SP.out.c1
      have s2 := SP.out.c2
      have a0 := A.out.c0
      have a1 := A.out.c1
      have a2 := A.out.c2
      have a3 := A.out.c3
      dsimp only at s0 s1 s2
      have Hrr := refRows_any al N cl es ⟨lo2, hi2, op2⟩ most back w3 X.out.hn X.out.l X.out.ok (by omega) Hmost.out
      rw [HDM.out] at Hrr
      unfold Sp.v at Hrr
      have Hrr := Lib.hid Hrr
      clear hev1 hE1 hb3 Hrw HW2 y0 y1 y2 f0 f1 f2
      go_wp2_with fail
      refine Hrr.out.mono ?_
      rintro e w4 ⟨u2, rfl, hev2, hb4⟩
      obtain ⟨b2, N2, c2, rfl, hE2⟩ := ev_lt hev2
      have e12 : N2 = N1 := by rw [← hE2.hn]; exact E1.out.hn
      subst e12
      have E2 := Lib.hid hE2
      clear t0 t1 s0 s1 s2 a0 a1 a2 a3
      replace X := Lib.hid (X.out.ext hb4)
      replace SP := Lib.hid (SP.out.ext hb4)
      replace A := Lib.hid (A.out.ext hb4)
      replace E1 := Lib.hid (E1.out.ext hb4)
      have t0 := X.out.t.c0
      have t1 := X.out.t.c1
      have s0 := SP.out.c0
      have s1 := SP.out.c1
      have s2 := SP.out.c2
      have a0 := A.out.c0
      have a1 := A.out.c1
      have a2 := A.out.c2
      have a3 := A.out.c3
      dsimp only at s0 s1 s2
      have Hrm := remove_any p es H ⟨lo2, hi2, op2⟩ w4 X.out.tr (by have := X.out.hn; omega)
      rw [X.out.hn] at Hrm
      obtain ⟨K, hK⟩ : ∃ K, (inS ⟨lo2, hi2, op2⟩ es).length = K := ⟨_, rfl⟩
      obtain ⟨M, hM⟩ : ∃ M, (outS ⟨lo2, hi2, op2⟩ es).length = M := ⟨_, rfl⟩
      rw [hK, hM] at Hrm
      have HK := Lib.hid hK
      have HM := Lib.hid hM
      have HKN : Hid (K ≤ 200) := by
        show _ ≤ _
        have h5 := inS_len ⟨lo2, hi2, op2⟩ es
        have h6 := X.out.hn
        omega
      unfold Sp.v at Hrm
      have Hrm := Lib.hid Hrm
      clear hev2 hE2 hb4 Hrr hK hM
      go_wp2_with fail
      refine Hrm.out.mono ?_
      rintro e w5 ⟨p5, H5, rfl, ht5, hb5⟩
      obtain ⟨W5, hW5, hn5, hbW5⟩ := alloc_own w5 TT #[.pointer p5, .int .i64 M]
      obtain ⟨bu, hbu⟩ : ∃ bu, w5.heap.size = bu := ⟨_, rfl⟩
      rw [hbu] at hn5
      have U : Hid (UT W5 bu p5 (outS ⟨lo2, hi2, op2⟩ es) M H5) := ⟨hn5, ht5.ext hbW5, HM.out⟩
      clear t0 t1 s0 s1 s2 a0 a1 a2 a3
      replace X := Lib.hid (X.out.ext hb5)
      replace SP := Lib.hid (SP.out.ext hb5)
      replace A := Lib.hid (A.out.ext hb5)
      replace E1 := Lib.hid (E1.out.ext hb5)
      replace E2 := Lib.hid (E2.out.ext hb5)
      replace X := Lib.hid (X.out.ext hbW5)
      replace SP := Lib.hid (SP.out.ext hbW5)
      replace A := Lib.hid (A.out.ext hbW5)
      replace E1 := Lib.hid (E1.out.ext hbW5)
      replace E2 := Lib.hid (E2.out.ext hbW5)
      have t0 := X.out.t.c0
      have t1 := X.out.t.c1
      have s0 := SP.out.c0
      have s1 := SP.out.c1
      have s2 := SP.out.c2
      have a0 := A.out.c0
      have a1 := A.out.c1
      have a2 := A.out.c2
      have a3 := A.out.c3
      rw [← hW5] at t0 t1 s0 s1 s2 a0 a1 a2 a3
      dsimp only at s0 s1 s2
      have HW5 := Lib.hid hW5
      have Hbu := Lib.hid hbu
      have Hrd := refRemove_any al N cl es ⟨lo2, hi2, op2⟩ W5 X.out.hn X.out.l X.out.ok (by omega)
      rw [HK.out] at Hrd
      unfold Sp.v at Hrd
      have Hrd := Lib.hid Hrd
      clear hW5 hn5 hbW5 hb5 ht5 Hrm hbu
      go_wp2_with fail
      rw [HW5.out, Hbu.out]
      refine Hrd.out.mono ?_
      rintro e w6 ⟨u3, rfl, hev3, hb6⟩
      obtain ⟨b3, M3, c3, rfl, hE3⟩ := ev_lt hev3
      have e33 : M3 = M := by rw [← hE3.hn]; exact HM.out
      subst e33
      have E3 := Lib.hid hE3
      clear t0 t1 s0 s1 s2 a0 a1 a2 a3
      replace X := Lib.hid (X.out.ext hb6)
      replace SP := Lib.hid (SP.out.ext hb6)
      replace A := Lib.hid (A.out.ext hb6)
      replace E1 := Lib.hid (E1.out.ext hb6)
      replace E2 := Lib.hid (E2.out.ext hb6)
      replace U := Lib.hid (U.out.ext hb6)
      have t0 := X.out.t.c0
      have t1 := X.out.t.c1
      have s0 := SP.out.c0
      have s1 := SP.out.c1
      have s2 := SP.out.c2
      have a0 := A.out.c0
      have a1 := A.out.c1
      have a2 := A.out.c2
      have a3 := A.out.c3
      dsimp only at s0 s1 s2
      clear hev3 hE3 hb6 Hrd HW5 Hbu
      have hfi := first_any p N es H ⟨lo2, hi2, op2⟩ w6 X.out.tr (by have := X.out.hn; omega)
      have hel : ∀ b, (endL ⟨lo2, hi2, op2⟩ es b).length = K := fun b => by unfold endL; rw [turn_len, HK.out]
      rw [hel] at hfi
      have Hel := Lib.hid hel
      clear hel
      by_cases hK0 : 0 < K
      · have dK : decide (0 < K) = true := decide_eq_true hK0
        have dK2 : decide (0 < (K : Int)) = true := decide_eq_true (by omega)
        have dK3 : ((K : Int) == 0) = false := by rw [beq_eq_false_iff_ne]; omega
        rw [dK] at hfi
        obtain ⟨yf, hyf⟩ : ∃ yf, ea (endL ⟨lo2, hi2, op2⟩ es false) 0 = yf := ⟨_, rfl⟩
        obtain ⟨yg, hyg⟩ : ∃ yg, ea (endL ⟨lo2, hi2, op2⟩ es true) 0 = yg := ⟨_, rfl⟩
        have Hyf := Lib.hid hyf
        have Hyg := Lib.hid hyg
        rw [hyf] at hfi
        unfold Sp.v at hfi
        have Hfi := Lib.hid hfi
        clear hfi hyf hyg
        go_wp2_with fail
        refine Hfi.out.mono ?_
        rintro e w7 ⟨rfl, hb7⟩
        obtain ⟨W7, hW7, hn7, hbW7⟩ := alloc_own w7 ET #[.string yf.k, .string yf.v]
        obtain ⟨bf, hbf⟩ : ∃ bf, w7.heap.size = bf := ⟨_, rfl⟩
        rw [hbf] at hn7
        have F : Hid (EB W7 bf yf) := hn7
        clear t0 t1 s0 s1 s2 a0 a1 a2 a3
        replace X := Lib.hid (X.out.ext hb7)
        replace SP := Lib.hid (SP.out.ext hb7)
        replace A := Lib.hid (A.out.ext hb7)
        replace E1 := Lib.hid (E1.out.ext hb7)
        replace E2 := Lib.hid (E2.out.ext hb7)
        replace U := Lib.hid (U.out.ext hb7)
        replace E3 := Lib.hid (E3.out.ext hb7)
        replace X := Lib.hid (X.out.ext hbW7)
        replace SP := Lib.hid (SP.out.ext hbW7)
        replace A := Lib.hid (A.out.ext hbW7)
        replace E1 := Lib.hid (E1.out.ext hbW7)
        replace E2 := Lib.hid (E2.out.ext hbW7)
        replace U := Lib.hid (U.out.ext hbW7)
        replace E3 := Lib.hid (E3.out.ext hbW7)
        have t0 := X.out.t.c0
        have t1 := X.out.t.c1
        have s0 := SP.out.c0
        have s1 := SP.out.c1
        have s2 := SP.out.c2
        have a0 := A.out.c0
        have a1 := A.out.c1
        have a2 := A.out.c2
        have a3 := A.out.c3
        rw [← hW7] at t0 t1 s0 s1 s2 a0 a1 a2 a3
        dsimp only at s0 s1 s2
        have HW7 := Lib.hid hW7
        have Hbf := Lib.hid hbf
        have hla := last_any p N es H ⟨lo2, hi2, op2⟩ W7 X.out.tr (by have := X.out.hn; omega)
        rw [Hel.out, dK, Hyg.out] at hla
        unfold Sp.v at hla
        have Hla := Lib.hid hla
        clear hla hW7 hn7 hbW7 hb7 Hfi hbf
        go_wp2_with fail
        rw [HW7.out, Hbf.out]
        refine Hla.out.mono ?_
        rintro e w8 ⟨rfl, hb8⟩
        obtain ⟨W8, hW8, hn8, hbW8⟩ := alloc_own w8 ET #[.string yg.k, .string yg.v]
        obtain ⟨bg, hbg⟩ : ∃ bg, w8.heap.size = bg := ⟨_, rfl⟩
        rw [hbg] at hn8
        have G : Hid (EB W8 bg yg) := hn8
        clear t0 t1 s0 s1 s2 a0 a1 a2 a3
        replace X := Lib.hid (X.out.ext hb8)
        replace SP := Lib.hid (SP.out.ext hb8)
        replace A := Lib.hid (A.out.ext hb8)
        replace E1 := Lib.hid (E1.out.ext hb8)
        replace E2 := Lib.hid (E2.out.ext hb8)
        replace U := Lib.hid (U.out.ext hb8)
        replace E3 := Lib.hid (E3.out.ext hb8)
        replace F := Lib.hid (F.out.ext hb8)
        replace X := Lib.hid (X.out.ext hbW8)
        replace SP := Lib.hid (SP.out.ext hbW8)
        replace A := Lib.hid (A.out.ext hbW8)
        replace E1 := Lib.hid (E1.out.ext hbW8)
        replace E2 := Lib.hid (E2.out.ext hbW8)
        replace U := Lib.hid (U.out.ext hbW8)
        replace E3 := Lib.hid (E3.out.ext hbW8)
        replace F := Lib.hid (F.out.ext hbW8)
        have t0 := X.out.t.c0
        have t1 := X.out.t.c1
        have s0 := SP.out.c0
        have s1 := SP.out.c1
        have s2 := SP.out.c2
        have a0 := A.out.c0
        have a1 := A.out.c1
        have a2 := A.out.c2
        have a3 := A.out.c3
        rw [← hW8] at t0 t1 s0 s1 s2 a0 a1 a2 a3
        dsimp only at s0 s1 s2
        have HW8 := Lib.hid hW8
        have Hbg := Lib.hid hbg
        have hal := refRows_any al N cl es ⟨lo2, hi2, op2⟩ 5000 false W8 X.out.hn X.out.l X.out.ok (by omega) (by decide)
        rw [rows_all (by have := X.out.hn; omega)] at hal
        obtain ⟨DX, hDX⟩ : ∃ DX, rowsM ⟨lo2, hi2, op2⟩ es 5000 = DX := ⟨_, rfl⟩
        rw [hDX] at hal
        unfold Sp.v at hal
        have Hal := Lib.hid hal
        clear hal hW8 hn8 hbW8 hb8 Hla HW7 Hbf hbg hDX
        go_wp2_with fail
        rw [HW8.out, Hbg.out]
        refine Hal.out.mono ?_
        rintro e w9 ⟨u4, rfl, hev4, hb9⟩
        obtain ⟨b4, K4, c4, rfl, hE4⟩ := ev_lt hev4
        have e44 : K4 = K := by rw [← hE4.hn, turn_len]; exact HK.out
        subst e44
        have E4 := Lib.hid hE4
        clear t0 t1 s0 s1 s2 a0 a1 a2 a3
        replace X := Lib.hid (X.out.ext hb9)
        replace SP := Lib.hid (SP.out.ext hb9)
        replace A := Lib.hid (A.out.ext hb9)
        replace E1 := Lib.hid (E1.out.ext hb9)
        replace E2 := Lib.hid (E2.out.ext hb9)
        replace U := Lib.hid (U.out.ext hb9)
        replace E3 := Lib.hid (E3.out.ext hb9)
        replace F := Lib.hid (F.out.ext hb9)
        replace G := Lib.hid (G.out.ext hb9)
        have v0 := U.out.t.c0
        have v1 := U.out.t.c1
        have t0 := X.out.t.c0
        have t1 := X.out.t.c1
        have s0 := SP.out.c0
        have s1 := SP.out.c1
        have s2 := SP.out.c2
        have a0 := A.out.c0
        have a1 := A.out.c1
        have a2 := A.out.c2
        have a3 := A.out.c3
        dsimp only at s0 s1 s2
        have Har := Lib.hid (are_yes b1 b2 N2 c1 c2 _ w9 E1.out.hn E1.out.s E2.out.s (by have h5 := E1.out.hn; have h6 := X.out.hn; have h7 := rows_len ⟨lo2, hi2, op2⟩ es most back; omega))
        clear hev4 hE4 hb9 Hal HW8 Hbg
        go_wp2_with fail
        refine Har.out.mono ?_
        rintro e w10 ⟨rfl, hb10⟩
        clear v0 v1
        clear t0 t1 s0 s1 s2 a0 a1 a2 a3
        replace X := Lib.hid (X.out.ext hb10)
        replace SP := Lib.hid (SP.out.ext hb10)
        replace U := Lib.hid (U.out.ext hb10)
        replace E3 := Lib.hid (E3.out.ext hb10)
        replace E4 := Lib.hid (E4.out.ext hb10)
        replace F := Lib.hid (F.out.ext hb10)
        replace G := Lib.hid (G.out.ext hb10)
        replace A := Lib.hid (A.out.ext hb10)
        have v0 := U.out.t.c0
        have v1 := U.out.t.c1
        have t0 := X.out.t.c0
        have t1 := X.out.t.c1
        have s0 := SP.out.c0
        have s1 := SP.out.c1
        have s2 := SP.out.c2
        have a0 := A.out.c0
        have a1 := A.out.c1
        have a2 := A.out.c2
        have a3 := A.out.c3
        dsimp only at s0 s1 s2
        have hau := all_any p5 _ H5 w10 U.out.tr (by have h5 := U.out.hn; have h6 := outS_len ⟨lo2, hi2, op2⟩ es; have h7 := X.out.hn; omega)
        rw [U.out.hn] at hau
        have Hau := Lib.hid hau
        have dM : (DM != DM) = false := by cases DM <;> rfl
        clear hb10 Har hau E1 E2
        go_wp2_with fail
        refine Hau.out.mono ?_
        rintro e w11 ⟨u5, rfl, hev5, hb11⟩
        obtain ⟨b5, M5, c5, rfl, hE5⟩ := ev_lt hev5
        have e55 : M5 = M3 := by rw [← hE5.hn]; exact U.out.hn
        subst e55
        clear v0 v1
        clear t0 t1 s0 s1 s2 a0 a1 a2 a3
        replace X := Lib.hid (X.out.ext hb11)
        replace SP := Lib.hid (SP.out.ext hb11)
        replace U := Lib.hid (U.out.ext hb11)
        replace E3 := Lib.hid (E3.out.ext hb11)
        replace E4 := Lib.hid (E4.out.ext hb11)
        replace F := Lib.hid (F.out.ext hb11)
        replace G := Lib.hid (G.out.ext hb11)
        replace A := Lib.hid (A.out.ext hb11)
        have v0 := U.out.t.c0
        have v1 := U.out.t.c1
        have t0 := X.out.t.c0
        have t1 := X.out.t.c1
        have s0 := SP.out.c0
        have s1 := SP.out.c1
        have s2 := SP.out.c2
        have a0 := A.out.c0
        have a1 := A.out.c1
        have a2 := A.out.c2
        have a3 := A.out.c3
        dsimp only at s0 s1 s2
        have Har2 := Lib.hid (are_yes b5 b3 M5 c5 c3 _ w11 hE5.hn hE5.s E3.out.s (by have h5 := U.out.hn; have h6 := outS_len ⟨lo2, hi2, op2⟩ es; have h7 := X.out.hn; omega))
        clear hev5 hE5 hb11 Hau
        go_wp2_with fail
        refine Har2.out.mono ?_
        rintro e w12 ⟨rfl, hb12⟩
        clear v0 v1
        clear t0 t1 s0 s1 s2 a0 a1 a2 a3
        replace X := Lib.hid (X.out.ext hb12)
        replace SP := Lib.hid (SP.out.ext hb12)
        replace U := Lib.hid (U.out.ext hb12)
        replace E4 := Lib.hid (E4.out.ext hb12)
        replace F := Lib.hid (F.out.ext hb12)
        replace G := Lib.hid (G.out.ext hb12)
        replace A := Lib.hid (A.out.ext hb12)
        have v0 := U.out.t.c0
        have v1 := U.out.t.c1
        have t0 := X.out.t.c0
        have t1 := X.out.t.c1
        have s0 := SP.out.c0
        have s1 := SP.out.c1
        have s2 := SP.out.c2
        have a0 := A.out.c0
        have a1 := A.out.c1
        have a2 := A.out.c2
        have a3 := A.out.c3
        dsimp only at s0 s1 s2
        have Hln := Lib.hid (len_any p5 (M5 : Int) w12)
        have dKK : ((K4 : Int) != (K4 : Int)) = false := by simp
        have dMM : ((M5 : Int) != (M5 : Int)) = false := by simp
        clear hb12 Har2 E3
        go_wp2_with fail
        refine Hln.out.mono ?_
        rintro e w13 ⟨rfl, hb13⟩
        clear v0 v1
        clear t0 t1 s0 s1 s2 a0 a1 a2 a3
        replace X := Lib.hid (X.out.ext hb13)
        replace SP := Lib.hid (SP.out.ext hb13)
        replace E4 := Lib.hid (E4.out.ext hb13)
        replace F := Lib.hid (F.out.ext hb13)
        replace G := Lib.hid (G.out.ext hb13)
        replace A := Lib.hid (A.out.ext hb13)
        have t0 := X.out.t.c0
        have t1 := X.out.t.c1
        have s0 := SP.out.c0
        have s1 := SP.out.c1
        have s2 := SP.out.c2
        have a0 := A.out.c0
        have a1 := A.out.c1
        have a2 := A.out.c2
        have a3 := A.out.c3
        dsimp only at s0 s1 s2
        have hct := count_any p N es H ⟨lo2, hi2, op2⟩ w13 X.out.tr (by have := X.out.hn; omega)
        rw [HK.out] at hct
        unfold Sp.v at hct
        have Hct := Lib.hid hct
        clear hb13 Hln U hct
        go_wp2_with fail
        refine Hct.out.mono ?_
        rintro e w14 ⟨rfl, hb14⟩
        clear t0 t1 s0 s1 s2 a0 a1 a2 a3
        replace X := Lib.hid (X.out.ext hb14)
        replace E4 := Lib.hid (E4.out.ext hb14)
        replace F := Lib.hid (F.out.ext hb14)
        replace G := Lib.hid (G.out.ext hb14)
        clear hb14 Hct SP A
        obtain ⟨W, hW⟩ : ∃ W, w14.drew = W := ⟨_, rfl⟩
        have hbd : Below w14.heap.size w14 W := by rw [← hW]; exact (Below.refl _ _).drew
        replace X := Lib.hid (X.out.ext hbd)
        replace E4 := Lib.hid (E4.out.ext hbd)
        replace F := Lib.hid (F.out.ext hbd)
        replace G := Lib.hid (G.out.ext hbd)
        have q0 : ∀ w', Ext W w' → w'.cell? ⟨bt, 0, none⟩ = some (.pointer p) := fun w' hx => (X.out.t.ext hx).c0
        have q1 : ∀ w', Ext W w' → w'.cell? ⟨bt, 1, none⟩ = some (.int .i64 N) := fun w' hx => (X.out.t.ext hx).c1
        have hat := all_any p es H W X.out.tr (by have := X.out.hn; omega)
        rw [X.out.hn] at hat
        have Hat := Lib.hid hat
        have HW := Lib.hid hW
        obtain ⟨g, o, rfl, hc⟩ := E4.out.ents hK0
        obtain ⟨Q, hQ⟩ : ∃ Q, K4 - 1 = Q := ⟨_, rfl⟩
        have hQK : Q < K4 := by omega
        have ef : ea (turnB false (inS ⟨lo2, hi2, op2⟩ es)) 0 = yf := Hyf.out
        have eg : ea (turnB false (inS ⟨lo2, hi2, op2⟩ es)) Q = yg := by
          rw [← Hyg.out, show endL ⟨lo2, hi2, op2⟩ es true = (inS ⟨lo2, hi2, op2⟩ es).reverse from rfl, ea_rev _ 0 (by have := HK.out; omega), HK.out, Nat.sub_zero, hQ]
          rfl
        have r0 : ∀ w', Ext W w' → w'.cell? ⟨g, o, none⟩ = some (.string yf.k) := fun w' hx => by
          have h5 := (hc 0 hK0).1
          rw [ef, Nat.zero_mul, Nat.add_zero] at h5
          rw [hx.cell (p := ⟨g, o, none⟩) (block_lt_of_cell h5)]; exact h5
        have r1 : ∀ w', Ext W w' → w'.cell? ⟨g, o + 1, none⟩ = some (.string yf.v) := fun w' hx => by
          have h5 := (hc 0 hK0).2
          rw [ef, Nat.zero_mul, Nat.add_zero] at h5
          rw [hx.cell (p := ⟨g, o + 1, none⟩) (block_lt_of_cell h5)]; exact h5
        have r2 : ∀ w', Ext W w' → w'.cell? ⟨g, o + Q * 2, none⟩ = some (.string yg.k) := fun w' hx => by
          have h5 := (hc Q hQK).1
          rw [eg] at h5
          rw [hx.cell (p := ⟨g, o + Q * 2, none⟩) (block_lt_of_cell h5)]; exact h5
        have r3 : ∀ w', Ext W w' → w'.cell? ⟨g, o + Q * 2 + 1, none⟩ = some (.string yg.v) := fun w' hx => by
          have h5 := (hc Q hQK).2
          rw [eg] at h5
          rw [hx.cell (p := ⟨g, o + Q * 2 + 1, none⟩) (block_lt_of_cell h5)]; exact h5
        have f0 : ∀ w', Ext W w' → w'.cell? ⟨bf, 0, none⟩ = some (.string yf.k) := fun w' hx => (F.out.ext hx).c0
        have f1 : ∀ w', Ext W w' → w'.cell? ⟨bf, 1, none⟩ = some (.string yf.v) := fun w' hx => (F.out.ext hx).c1
        have g0 : ∀ w', Ext W w' → w'.cell? ⟨bg, 0, none⟩ = some (.string yg.k) := fun w' hx => (G.out.ext hx).c0
        have g1' : ∀ w', Ext W w' → w'.cell? ⟨bg, 1, none⟩ = some (.string yg.v) := fun w' hx => (G.out.ext hx).c1
        have z1 : (K4 : Int) - 1 = (Q : Int) := by omega
        have z2 : IntKind.i64.wrap ((K4 : Int) - 1) = (Q : Int) := by have := HKN.out; rw [IntKind.wrap_i64]; omega
        have z3 : IntKind.i64.wrap (Q : Int) = (Q : Int) := by have := HKN.out; rw [IntKind.wrap_i64]; omega
        have z4 : (0 : Int) ≤ (Q : Int) := by omega
        have z5 : (Q : Int) < (K4 : Int) := by omega
        have z6 : (0 : Int) < (K4 : Int) := by omega
        clear hc hQ ef eg
        clear hW hbd hat
        go_wp2_with fail
        refine wp_region_gr [(0, true), (1, true), (2, true), (3, true), (4, true), (5, true), (6, true), (7, true), (8, true), (9, true), (10, true), (11, true), (12, true), (13, true), (14, true), (15, true), (16, true), (17, true), (18, true), (19, true), (20, true), (22, true), (21, false), (23, false), (24, true), (25, true), (26, false), (27, true), (28, true)] (by kernel_rfl) (by kernel_rfl) (by kernel_rfl) (by kernel_rfl) (fun _ _ _ _ _ h => h) ?_
        rw [HW.out]
        iterate 22 (first | (refine wpGr_read (o := ⟨_, _, _, _, _, _⟩) (v := ?_) rfl (by rfl) ?_ ?_; rotate_left; (intro w' hw'; go_simp; with_reducible rfl); simp only [Act.put, List.setIfInBounds_toArray, List.set_cons_zero, List.set_cons_succ]) | (refine wpGr_skip (o := ⟨_, _, _, _, _, _⟩) rfl (by rfl) ?_; simp only [Act.put, List.setIfInBounds_toArray, List.set_cons_zero, List.set_cons_succ]))
        clear q0 q1 r0 r1 r2 r3 f0 f1 g0 g1'
        refine wpGr_call (o := ⟨_, _, _, _, _, _⟩) rfl (by rfl) (fun K hK => ?_)
        go_simp
        refine Hat.out.mono ?_
        rintro e w15 ⟨u6, rfl, hev6, hb15⟩
        refine hK _ _ hb15 ?_
        clear hK K Hat
        obtain ⟨b6, N6, c6, rfl, hE6⟩ := ev_lt hev6
        have e66 : N6 = N := by rw [← hE6.hn]; exact X.out.hn
        subst e66
        replace X := Lib.hid (X.out.ext hb15)
        have Har3 := Lib.hid (are_yes b6 al N6 c6 cl es w15 hE6.hn hE6.s X.out.l (by omega))
        clear hev6 hE6 hb15
        refine wpGr_call (o := ⟨_, _, _, _, _, _⟩) rfl (by rfl) (fun K hK => ?_)
        go_simp
        refine Har3.out.mono ?_
        rintro e w16 ⟨rfl, hb16⟩
        refine hK _ _ hb16 ?_
        clear hK K Har3
        replace X := Lib.hid (X.out.ext hb16)
        have Hsu := Lib.hid (sure_any w16 (Hg0.out X.out.b))
        clear hb16
        iterate 2 (first | (refine wpGr_read (o := ⟨_, _, _, _, _, _⟩) (v := ?_) rfl (by rfl) ?_ ?_; rotate_left; (intro w' hw'; go_simp; with_reducible rfl); simp only [Act.put, List.setIfInBounds_toArray, List.set_cons_zero, List.set_cons_succ]) | (refine wpGr_skip (o := ⟨_, _, _, _, _, _⟩) rfl (by rfl) ?_; simp only [Act.put, List.setIfInBounds_toArray, List.set_cons_zero, List.set_cons_succ]))
        refine wpGr_call (o := ⟨_, _, _, _, _, _⟩) rfl (by rfl) (fun K hK => ?_)
        go_simp
        refine Hsu.out.mono ?_
        rintro e w17 ⟨rfl, hb17⟩
        refine hK _ _ hb17 ?_
        clear hK K Hsu
        have HB := Lib.hid (X.out.b.trans (hb17.mono X.out.b.size))
        clear hb17
        iterate 2 (first | (refine wpGr_read (o := ⟨_, _, _, _, _, _⟩) (v := ?_) rfl (by rfl) ?_ ?_; rotate_left; (intro w' hw'; go_simp; with_reducible rfl); simp only [Act.put, List.setIfInBounds_toArray, List.set_cons_zero, List.set_cons_succ]) | (refine wpGr_skip (o := ⟨_, _, _, _, _, _⟩) rfl (by rfl) ?_; simp only [Act.put, List.setIfInBounds_toArray, List.set_cons_zero, List.set_cons_succ]))
        refine wpGr_done ?_
        go_wp2_with fail
        go_ret
        exact ⟨rfl, HB.out⟩
      · have dK : decide (0 < K) = false := decide_eq_false hK0
        have dK2 : decide (0 < (K : Int)) = false := decide_eq_false (by omega)
        have dK3 : ((K : Int) == 0) = true := by rw [beq_iff_eq]; omega
        rw [dK] at hfi
        obtain ⟨yf, hyf⟩ : ∃ yf, ea (endL ⟨lo2, hi2, op2⟩ es false) 0 = yf := ⟨_, rfl⟩
        obtain ⟨yg, hyg⟩ : ∃ yg, ea (endL ⟨lo2, hi2, op2⟩ es true) 0 = yg := ⟨_, rfl⟩
        have Hyf := Lib.hid hyf
        have Hyg := Lib.hid hyg
        rw [hyf] at hfi
        unfold Sp.v at hfi
        have Hfi := Lib.hid hfi
        clear hfi hyf hyg
        go_wp2_with fail
        refine Hfi.out.mono ?_
        rintro e w7 ⟨rfl, hb7⟩
        obtain ⟨W7, hW7, hn7, hbW7⟩ := alloc_own w7 ET #[.string yf.k, .string yf.v]
        obtain ⟨bf, hbf⟩ : ∃ bf, w7.heap.size = bf := ⟨_, rfl⟩
        rw [hbf] at hn7
        have F : Hid (EB W7 bf yf) := hn7
        clear t0 t1 s0 s1 s2 a0 a1 a2 a3
        replace X := Lib.hid (X.out.ext hb7)
        replace SP := Lib.hid (SP.out.ext hb7)
        replace A := Lib.hid (A.out.ext hb7)
        replace E1 := Lib.hid (E1.out.ext hb7)
        replace E2 := Lib.hid (E2.out.ext hb7)
        replace U := Lib.hid (U.out.ext hb7)
        replace E3 := Lib.hid (E3.out.ext hb7)
        replace X := Lib.hid (X.out.ext hbW7)
        replace SP := Lib.hid (SP.out.ext hbW7)
        replace A := Lib.hid (A.out.ext hbW7)
        replace E1 := Lib.hid (E1.out.ext hbW7)
        replace E2 := Lib.hid (E2.out.ext hbW7)
        replace U := Lib.hid (U.out.ext hbW7)
        replace E3 := Lib.hid (E3.out.ext hbW7)
        have t0 := X.out.t.c0
        have t1 := X.out.t.c1
        have s0 := SP.out.c0
        have s1 := SP.out.c1
        have s2 := SP.out.c2
        have a0 := A.out.c0
        have a1 := A.out.c1
        have a2 := A.out.c2
        have a3 := A.out.c3
        rw [← hW7] at t0 t1 s0 s1 s2 a0 a1 a2 a3
        dsimp only at s0 s1 s2
        have HW7 := Lib.hid hW7
        have Hbf := Lib.hid hbf
        have hla := last_any p N es H ⟨lo2, hi2, op2⟩ W7 X.out.tr (by have := X.out.hn; omega)
        rw [Hel.out, dK, Hyg.out] at hla
        unfold Sp.v at hla
        have Hla := Lib.hid hla
        clear hla hW7 hn7 hbW7 hb7 Hfi hbf
        go_wp2_with fail
        rw [HW7.out, Hbf.out]
        refine Hla.out.mono ?_
        rintro e w8 ⟨rfl, hb8⟩
        obtain ⟨W8, hW8, hn8, hbW8⟩ := alloc_own w8 ET #[.string yg.k, .string yg.v]
        obtain ⟨bg, hbg⟩ : ∃ bg, w8.heap.size = bg := ⟨_, rfl⟩
        rw [hbg] at hn8
        have G : Hid (EB W8 bg yg) := hn8
        clear t0 t1 s0 s1 s2 a0 a1 a2 a3
        replace X := Lib.hid (X.out.ext hb8)
        replace SP := Lib.hid (SP.out.ext hb8)
        replace A := Lib.hid (A.out.ext hb8)
        replace E1 := Lib.hid (E1.out.ext hb8)
        replace E2 := Lib.hid (E2.out.ext hb8)
        replace U := Lib.hid (U.out.ext hb8)
        replace E3 := Lib.hid (E3.out.ext hb8)
        replace F := Lib.hid (F.out.ext hb8)
        replace X := Lib.hid (X.out.ext hbW8)
        replace SP := Lib.hid (SP.out.ext hbW8)
        replace A := Lib.hid (A.out.ext hbW8)
        replace E1 := Lib.hid (E1.out.ext hbW8)
        replace E2 := Lib.hid (E2.out.ext hbW8)
        replace U := Lib.hid (U.out.ext hbW8)
        replace E3 := Lib.hid (E3.out.ext hbW8)
        replace F := Lib.hid (F.out.ext hbW8)
        have t0 := X.out.t.c0
        have t1 := X.out.t.c1
        have s0 := SP.out.c0
        have s1 := SP.out.c1
        have s2 := SP.out.c2
        have a0 := A.out.c0
        have a1 := A.out.c1
        have a2 := A.out.c2
        have a3 := A.out.c3
        rw [← hW8] at t0 t1 s0 s1 s2 a0 a1 a2 a3
        dsimp only at s0 s1 s2
        have HW8 := Lib.hid hW8
        have Hbg := Lib.hid hbg
        have hal := refRows_any al N cl es ⟨lo2, hi2, op2⟩ 5000 false W8 X.out.hn X.out.l X.out.ok (by omega) (by decide)
        rw [rows_all (by have := X.out.hn; omega)] at hal
        obtain ⟨DX, hDX⟩ : ∃ DX, rowsM ⟨lo2, hi2, op2⟩ es 5000 = DX := ⟨_, rfl⟩
        rw [hDX] at hal
        unfold Sp.v at hal
        have Hal := Lib.hid hal
        clear hal hW8 hn8 hbW8 hb8 Hla HW7 Hbf hbg hDX
        go_wp2_with fail
        rw [HW8.out, Hbg.out]
        refine Hal.out.mono ?_
        rintro e w9 ⟨u4, rfl, hev4, hb9⟩
        obtain ⟨b4, K4, c4, rfl, hE4⟩ := ev_lt hev4
        have e44 : K4 = K := by rw [← hE4.hn, turn_len]; exact HK.out
        subst e44
        have E4 := Lib.hid hE4
        clear t0 t1 s0 s1 s2 a0 a1 a2 a3
        replace X := Lib.hid (X.out.ext hb9)
        replace SP := Lib.hid (SP.out.ext hb9)
        replace A := Lib.hid (A.out.ext hb9)
        replace E1 := Lib.hid (E1.out.ext hb9)
        replace E2 := Lib.hid (E2.out.ext hb9)
        replace U := Lib.hid (U.out.ext hb9)
        replace E3 := Lib.hid (E3.out.ext hb9)
        replace F := Lib.hid (F.out.ext hb9)
        replace G := Lib.hid (G.out.ext hb9)
        have v0 := U.out.t.c0
        have v1 := U.out.t.c1
        have t0 := X.out.t.c0
        have t1 := X.out.t.c1
        have s0 := SP.out.c0
        have s1 := SP.out.c1
        have s2 := SP.out.c2
        have a0 := A.out.c0
        have a1 := A.out.c1
        have a2 := A.out.c2
        have a3 := A.out.c3
        dsimp only at s0 s1 s2
        have Har := Lib.hid (are_yes b1 b2 N2 c1 c2 _ w9 E1.out.hn E1.out.s E2.out.s (by have h5 := E1.out.hn; have h6 := X.out.hn; have h7 := rows_len ⟨lo2, hi2, op2⟩ es most back; omega))
        clear hev4 hE4 hb9 Hal HW8 Hbg
        go_wp2_with fail
        refine Har.out.mono ?_
        rintro e w10 ⟨rfl, hb10⟩
        clear v0 v1
        clear t0 t1 s0 s1 s2 a0 a1 a2 a3
        replace X := Lib.hid (X.out.ext hb10)
        replace SP := Lib.hid (SP.out.ext hb10)
        replace U := Lib.hid (U.out.ext hb10)
        replace E3 := Lib.hid (E3.out.ext hb10)
        replace E4 := Lib.hid (E4.out.ext hb10)
        replace F := Lib.hid (F.out.ext hb10)
        replace G := Lib.hid (G.out.ext hb10)
        replace A := Lib.hid (A.out.ext hb10)
        have v0 := U.out.t.c0
        have v1 := U.out.t.c1
        have t0 := X.out.t.c0
        have t1 := X.out.t.c1
        have s0 := SP.out.c0
        have s1 := SP.out.c1
        have s2 := SP.out.c2
        have a0 := A.out.c0
        have a1 := A.out.c1
        have a2 := A.out.c2
        have a3 := A.out.c3
        dsimp only at s0 s1 s2
        have hau := all_any p5 _ H5 w10 U.out.tr (by have h5 := U.out.hn; have h6 := outS_len ⟨lo2, hi2, op2⟩ es; have h7 := X.out.hn; omega)
        rw [U.out.hn] at hau
        have Hau := Lib.hid hau
        have dM : (DM != DM) = false := by cases DM <;> rfl
        clear hb10 Har hau E1 E2
        go_wp2_with fail
        refine Hau.out.mono ?_
        rintro e w11 ⟨u5, rfl, hev5, hb11⟩
        obtain ⟨b5, M5, c5, rfl, hE5⟩ := ev_lt hev5
        have e55 : M5 = M3 := by rw [← hE5.hn]; exact U.out.hn
        subst e55
        clear v0 v1
        clear t0 t1 s0 s1 s2 a0 a1 a2 a3
        replace X := Lib.hid (X.out.ext hb11)
        replace SP := Lib.hid (SP.out.ext hb11)
        replace U := Lib.hid (U.out.ext hb11)
        replace E3 := Lib.hid (E3.out.ext hb11)
        replace E4 := Lib.hid (E4.out.ext hb11)
        replace F := Lib.hid (F.out.ext hb11)
        replace G := Lib.hid (G.out.ext hb11)
        replace A := Lib.hid (A.out.ext hb11)
        have v0 := U.out.t.c0
        have v1 := U.out.t.c1
        have t0 := X.out.t.c0
        have t1 := X.out.t.c1
        have s0 := SP.out.c0
        have s1 := SP.out.c1
        have s2 := SP.out.c2
        have a0 := A.out.c0
        have a1 := A.out.c1
        have a2 := A.out.c2
        have a3 := A.out.c3
        dsimp only at s0 s1 s2
        have Har2 := Lib.hid (are_yes b5 b3 M5 c5 c3 _ w11 hE5.hn hE5.s E3.out.s (by have h5 := U.out.hn; have h6 := outS_len ⟨lo2, hi2, op2⟩ es; have h7 := X.out.hn; omega))
        clear hev5 hE5 hb11 Hau
        go_wp2_with fail
        refine Har2.out.mono ?_
        rintro e w12 ⟨rfl, hb12⟩
        clear v0 v1
        clear t0 t1 s0 s1 s2 a0 a1 a2 a3
        replace X := Lib.hid (X.out.ext hb12)
        replace SP := Lib.hid (SP.out.ext hb12)
        replace U := Lib.hid (U.out.ext hb12)
        replace E4 := Lib.hid (E4.out.ext hb12)
        replace F := Lib.hid (F.out.ext hb12)
        replace G := Lib.hid (G.out.ext hb12)
        replace A := Lib.hid (A.out.ext hb12)
        have v0 := U.out.t.c0
        have v1 := U.out.t.c1
        have t0 := X.out.t.c0
        have t1 := X.out.t.c1
        have s0 := SP.out.c0
        have s1 := SP.out.c1
        have s2 := SP.out.c2
        have a0 := A.out.c0
        have a1 := A.out.c1
        have a2 := A.out.c2
        have a3 := A.out.c3
        dsimp only at s0 s1 s2
        have Hln := Lib.hid (len_any p5 (M5 : Int) w12)
        have dKK : ((K4 : Int) != (K4 : Int)) = false := by simp
        have dMM : ((M5 : Int) != (M5 : Int)) = false := by simp
        clear hb12 Har2 E3
        go_wp2_with fail
        refine Hln.out.mono ?_
        rintro e w13 ⟨rfl, hb13⟩
        clear v0 v1
        clear t0 t1 s0 s1 s2 a0 a1 a2 a3
        replace X := Lib.hid (X.out.ext hb13)
        replace SP := Lib.hid (SP.out.ext hb13)
        replace E4 := Lib.hid (E4.out.ext hb13)
        replace F := Lib.hid (F.out.ext hb13)
        replace G := Lib.hid (G.out.ext hb13)
        replace A := Lib.hid (A.out.ext hb13)
        have t0 := X.out.t.c0
        have t1 := X.out.t.c1
        have s0 := SP.out.c0
        have s1 := SP.out.c1
        have s2 := SP.out.c2
        have a0 := A.out.c0
        have a1 := A.out.c1
        have a2 := A.out.c2
        have a3 := A.out.c3
        dsimp only at s0 s1 s2
        have hct := count_any p N es H ⟨lo2, hi2, op2⟩ w13 X.out.tr (by have := X.out.hn; omega)
        rw [HK.out] at hct
        unfold Sp.v at hct
        have Hct := Lib.hid hct
        clear hb13 Hln U hct
        go_wp2_with fail
        refine Hct.out.mono ?_
        rintro e w14 ⟨rfl, hb14⟩
        clear t0 t1 s0 s1 s2 a0 a1 a2 a3
        replace X := Lib.hid (X.out.ext hb14)
        replace E4 := Lib.hid (E4.out.ext hb14)
        replace F := Lib.hid (F.out.ext hb14)
        replace G := Lib.hid (G.out.ext hb14)
        clear hb14 Hct SP A
        obtain ⟨W, hW⟩ : ∃ W, w14.drew = W := ⟨_, rfl⟩
        have hbd : Below w14.heap.size w14 W := by rw [← hW]; exact (Below.refl _ _).drew
        replace X := Lib.hid (X.out.ext hbd)
        replace E4 := Lib.hid (E4.out.ext hbd)
        replace F := Lib.hid (F.out.ext hbd)
        replace G := Lib.hid (G.out.ext hbd)
        have q0 : ∀ w', Ext W w' → w'.cell? ⟨bt, 0, none⟩ = some (.pointer p) := fun w' hx => (X.out.t.ext hx).c0
        have q1 : ∀ w', Ext W w' → w'.cell? ⟨bt, 1, none⟩ = some (.int .i64 N) := fun w' hx => (X.out.t.ext hx).c1
        have hat := all_any p es H W X.out.tr (by have := X.out.hn; omega)
        rw [X.out.hn] at hat
        have Hat := Lib.hid hat
        have HW := Lib.hid hW
        clear hW hbd hat
        go_wp2_with fail
        refine wp_region_gr [(0, true), (1, true), (2, true), (3, true), (4, true), (5, true), (6, true), (7, true), (8, true), (9, true), (10, true), (11, true), (12, true), (13, true), (14, true), (15, true), (16, true), (17, true), (18, true), (19, true), (20, true), (22, true), (21, false), (23, false), (24, true), (25, true), (26, false), (27, true), (28, true)] (by kernel_rfl) (by kernel_rfl) (by kernel_rfl) (by kernel_rfl) (fun _ _ _ _ _ h => h) ?_
        rw [HW.out]
        iterate 22 (first | (refine wpGr_read (o := ⟨_, _, _, _, _, _⟩) (v := ?_) rfl (by rfl) ?_ ?_; rotate_left; (intro w' hw'; go_simp; with_reducible rfl); simp only [Act.put, List.setIfInBounds_toArray, List.set_cons_zero, List.set_cons_succ]) | (refine wpGr_skip (o := ⟨_, _, _, _, _, _⟩) rfl (by rfl) ?_; simp only [Act.put, List.setIfInBounds_toArray, List.set_cons_zero, List.set_cons_succ]))
        clear q0 q1
        refine wpGr_call (o := ⟨_, _, _, _, _, _⟩) rfl (by rfl) (fun K hK => ?_)
        go_simp
        refine Hat.out.mono ?_
        rintro e w15 ⟨u6, rfl, hev6, hb15⟩
        refine hK _ _ hb15 ?_
        clear hK K Hat
        obtain ⟨b6, N6, c6, rfl, hE6⟩ := ev_lt hev6
        have e66 : N6 = N := by rw [← hE6.hn]; exact X.out.hn
        subst e66
        replace X := Lib.hid (X.out.ext hb15)
        have Har3 := Lib.hid (are_yes b6 al N6 c6 cl es w15 hE6.hn hE6.s X.out.l (by omega))
        clear hev6 hE6 hb15
        refine wpGr_call (o := ⟨_, _, _, _, _, _⟩) rfl (by rfl) (fun K hK => ?_)
        go_simp
        refine Har3.out.mono ?_
        rintro e w16 ⟨rfl, hb16⟩
        refine hK _ _ hb16 ?_
        clear hK K Har3
        replace X := Lib.hid (X.out.ext hb16)
        have Hsu := Lib.hid (sure_any w16 (Hg0.out X.out.b))
        clear hb16
        iterate 2 (first | (refine wpGr_read (o := ⟨_, _, _, _, _, _⟩) (v := ?_) rfl (by rfl) ?_ ?_; rotate_left; (intro w' hw'; go_simp; with_reducible rfl); simp only [Act.put, List.setIfInBounds_toArray, List.set_cons_zero, List.set_cons_succ]) | (refine wpGr_skip (o := ⟨_, _, _, _, _, _⟩) rfl (by rfl) ?_; simp only [Act.put, List.setIfInBounds_toArray, List.set_cons_zero, List.set_cons_succ]))
        refine wpGr_call (o := ⟨_, _, _, _, _, _⟩) rfl (by rfl) (fun K hK => ?_)
        go_simp
        refine Hsu.out.mono ?_
        rintro e w17 ⟨rfl, hb17⟩
        refine hK _ _ hb17 ?_
        clear hK K Hsu
        have HB := Lib.hid (X.out.b.trans (hb17.mono X.out.b.size))
        clear hb17
        iterate 2 (first | (refine wpGr_read (o := ⟨_, _, _, _, _, _⟩) (v := ?_) rfl (by rfl) ?_ ?_; rotate_left; (intro w' hw'; go_simp; with_reducible rfl); simp only [Act.put, List.setIfInBounds_toArray, List.set_cons_zero, List.set_cons_succ]) | (refine wpGr_skip (o := ⟨_, _, _, _, _, _⟩) rfl (by rfl) ?_; simp only [Act.put, List.setIfInBounds_toArray, List.set_cons_zero, List.set_cons_succ]))
        refine wpGr_done ?_
        go_wp2_with fail
        go_ret
        exact ⟨rfl, HB.out⟩
end Go.Proofs.YtimdlgjgoggaiaaDoor
