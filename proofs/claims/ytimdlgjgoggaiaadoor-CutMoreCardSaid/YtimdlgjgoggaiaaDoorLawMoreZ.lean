/-
  CutMore.
-/
import Derived.Test.YtimdlgjgoggaiaaDoorCutLawZ
import Derived.Deep.Cut
import Derived.Deep.CutRange
namespace Go.Proofs.YtimdlgjgoggaiaaDoor
open Go Go.RowKit

theorem more_nums (s : Sp) (es : List En) (R : Nat) (back : Bool) : rowsL s es (R : Int) back = (endL s es back).take R ∧ rowsM s es (R : Int) = decide (R < (endL s es back).length) ∧ rowsM s es ((R : Int) + 1) = decide (R + 1 < (endL s es back).length) := by
  unfold rowsL rowsM endL
  rw [in_turn, turn_len]
  exact ⟨rfl, rfl, rfl⟩
theorem ea_tk (l : List En) (n i : Nat) (h : i < n) : ea (l.take n) i = ea l i := by
  unfold ea; simp [List.getD, h]
set_option maxHeartbeats 4000000 in
set_option maxRecDepth 100000 in
theorem more_any (n0 m0 : Nat) (lo hi : ByteArray) (op : Bool) (most : Int) (back : Bool) (nx ny : Nat) (w : World) (h1 : n0 < 65536) (h2 : m0 < 65536) (hmost : -9223372036854775808 ≤ most ∧ most ≤ 9223372036854775807) (h3 : nx < 65536) (h4 : ny < 65536) (hg : Hg w) :
    Calls Tryd.prog 5 #[.agg #[.int .u16 n0, .int .u16 m0], .agg #[.string lo, .string hi, .bool op], .agg #[.int .i64 most, .bool back, .int .u16 nx, .int .u16 ny]] w fun e w' => e = .returned (.bool true) ∧ Below w.heap.size w w' := by
  have Hg0 : Hid (∀ {w'}, Below w.heap.size w w' → Hg w') := fun h => hg.below h
  have Hmost := Lib.hid hmost
  obtain ⟨W0, hW0, k1, k2, k3, hb0, hz0⟩ := three_own w #[.int .u16 n0, .int .u16 m0] #[.string lo, .string hi, .bool op] #[.int .i64 most, .bool back, .int .u16 nx, .int .u16 ny] ARR RSP ASK
  obtain ⟨N0, hN0⟩ : ∃ N0, n0 % 120 = N0 := ⟨_, rfl⟩
  have eN : (n0 : Int).tmod 120 = (N0 : Int) := by rw [Int.tmod_eq_emod_of_nonneg (by omega)]; omega
  have wN : IntKind.i64.wrap (N0 : Int) = (N0 : Int) := by rw [IntKind.wrap_i64]; omega
  have wM : IntKind.i64.wrap (m0 : Int) = (m0 : Int) := by rw [IntKind.wrap_i64]; omega
  have Hgr := Lib.hid (grown_any N0 m0 W0 (by omega) (by omega) (Hg0.out hb0))
  have SP0 : Hid (SpIn W0 (w.heap.size + 1) RSP ⟨lo, hi, op⟩) := k2
  have A0 : Hid (AB W0 (w.heap.size + 1 + 1) most back nx ny) := k3
  have HB0 := Lib.hid hb0
  have HW0 := Lib.hid hW0
  have HN9 : Hid (N0 ≤ 200) := by show _ ≤ _; omega
  have Hz0 := Lib.hid hz0
  obtain ⟨bs, hbs⟩ : ∃ bs, w.heap.size + 1 = bs := ⟨_, rfl⟩
  obtain ⟨ba, hba⟩ : ∃ ba, bs + 1 = ba := ⟨_, rfl⟩
  have Hbs := Lib.hid (And.intro hbs hba)
  rw [hbs] at SP0
  rw [hbs, hba] at A0
  clear hW0 k1 k2 k3 hb0 hz0 hN0 hg hmost hbs hba
  go_enter Tryd.func5, Tryd.ntmps5
  go_wp2_with fail
  rw [HW0.out, Hbs.out.1, Hbs.out.2]
  refine Hgr.out.mono ?_
  rintro e w1 ⟨p, H, es, l, rfl, ht, hl, hlen, hb1⟩
  replace ht := ht.tp
  obtain ⟨al, N, cl, rfl, hls, hlN, hlc⟩ := ev_ct hl
  rw [hlN]
  obtain ⟨W1, hW1, hn1, hbW1⟩ := alloc_own w1 TT #[.pointer p, .int .i64 N]
  obtain ⟨bt, hbt⟩ : ∃ bt, w1.heap.size = bt := ⟨_, rfl⟩
  rw [hbt] at hn1
  have hb01 := HB0.out.trans (hb1.mono HB0.out.size)
  have X : Hid (CT w W1 bt p es N H al cl) := ⟨hn1, ht.ext hbW1, hls.below hbW1 (Nat.le_refl _), hlN, by have := HN9.out; omega, hlc, hb01.trans (hbW1.mono hb01.size)⟩
  have SP := Lib.hid ((SP0.out.ext hb1).ext hbW1)
  have A := Lib.hid ((A0.out.ext hb1).ext hbW1)
  have hne1 : bt ≠ bs := by have h5 := SP0.out.lt; have h6 := hb1.size; omega
  have hne2 : ba ≠ bs := by have := Hbs.out.2; omega
  have Hne := Lib.hid (And.intro hne1 (And.intro hne2 (show w.heap.size ≤ bs by have := Hbs.out.1; omega)))
  have HW1 := Lib.hid hW1
  have Hbt := Lib.hid hbt
  have hN6 : N ≤ 200 := X.out.hl
  have t0 := X.out.t.c0
  have t1 := X.out.t.c1
  have s0 := SP.out.c0
  have s1 := SP.out.c1
  have s2 := SP.out.c2
  have a0 := A.out.c0
  have a1 := A.out.c1
  have a2 := A.out.c2
  have a3 := A.out.c3
  rw [← hW1] at t0 t1 s0 s1 s2 a0 a1 a2 a3
  clear hW1 hn1 hbW1 hb01 hb1 ht hl hlen hls hlN hlc Hgr HB0 HW0 SP0 A0 hne1 hne2 hbt
  by_cases g1 : 100 < lo.size
  · have d1 : decide (100 < (lo.size : Int)) = true := decide_eq_true (by omega)
    have Hsu := Lib.hid (sure_any W1 (Hg0.out X.out.b))
    go_wp2_with fail
    rw [HW1.out]
    refine Hsu.out.mono ?_
    rintro e w2 ⟨rfl, hb2⟩
    have HB := Lib.hid (X.out.b.trans (hb2.mono X.out.b.size))
    clear hb2 Hsu t0 t1 s0 s1 s2 a0 a1 a2 a3
    go_wp2_with fail
    go_ret
    exact ⟨rfl, HB.out⟩
  · have d1 : decide (100 < (lo.size : Int)) = false := decide_eq_false (by omega)
    by_cases g2 : 100 < hi.size
    · have d2 : decide (100 < (hi.size : Int)) = true := decide_eq_true (by omega)
      have Hsu := Lib.hid (sure_any W1 (Hg0.out X.out.b))
      go_wp2_with fail
      rw [HW1.out]
      refine Hsu.out.mono ?_
      rintro e w2 ⟨rfl, hb2⟩
      have HB := Lib.hid (X.out.b.trans (hb2.mono X.out.b.size))
      clear hb2 Hsu t0 t1 s0 s1 s2 a0 a1 a2 a3
      go_wp2_with fail
      go_ret
      exact ⟨rfl, HB.out⟩
    · have d2 : decide (100 < (hi.size : Int)) = false := decide_eq_false (by omega)
      have Hnr := near_any ⟨lo, hi, op⟩ al N cl es nx ny W1 X.out.hn X.out.l (by omega) h3 h4
      obtain ⟨sp, hsp⟩ : ∃ sp, nearS ⟨lo, hi, op⟩ es nx ny = sp := ⟨_, rfl⟩
      rw [hsp] at Hnr
      obtain ⟨lo2, hi2, op2⟩ := sp
      unfold Sp.v at Hnr
      have Hnr := Lib.hid Hnr
      clear hsp
      go_wp2_with fail
      rw [HW1.out, Hbt.out]
      refine Hnr.out.mono ?_
      rintro e w2 ⟨rfl, hb2⟩
      obtain ⟨W2, hW2, hn2, hbW2⟩ := alloc_own w2 SPT #[.string lo2, .string hi2, .bool op2]
      obtain ⟨bx, hbx⟩ : ∃ bx, w2.heap.size = bx := ⟨_, rfl⟩
      rw [hbx] at hn2
      clear t0 t1 s0 s1 s2 a0 a1 a2 a3
      replace X := Lib.hid (X.out.ext hb2)
      replace A := Lib.hid (A.out.ext hb2)
      replace X := Lib.hid (X.out.ext hbW2)
      replace A := Lib.hid (A.out.ext hbW2)
      have SP : Hid (SpIn W2 bx SPT ⟨lo2, hi2, op2⟩) := hn2
      have t0 := X.out.t.c0
      have t1 := X.out.t.c1
      have s0 := SP.out.c0
      have s1 := SP.out.c1
      have s2 := SP.out.c2
      have a0 := A.out.c0
      have a1 := A.out.c1
      have a2 := A.out.c2
      have a3 := A.out.c3
      rw [← hW2] at t0 t1 s0 s1 s2 a0 a1 a2 a3
      dsimp only at s0 s1 s2
      have HW2 := Lib.hid hW2
      have Hbx := Lib.hid hbx
      obtain ⟨UM, hUM⟩ : ∃ UM : Nat, IntKind.u64.wrap most = (UM : Int) := ⟨(IntKind.u64.wrap most).toNat, by rw [IntKind.wrap_u64]; omega⟩
      obtain ⟨R, hR⟩ : ∃ R, UM % 130 = R := ⟨_, rfl⟩
      have eR : (UM : Int).tmod 130 = (R : Int) := by rw [Int.tmod_eq_emod_of_nonneg (by omega)]; omega
      have hR9 : R < 130 := by omega
      have wR : IntKind.i64.wrap (R : Int) = (R : Int) := by rw [IntKind.wrap_i64]; omega
      have wR1 : IntKind.i64.wrap ((R : Int) + 1) = (R : Int) + 1 := by rw [IntKind.wrap_i64]; omega
      have Hrw := rows_any p N es H ⟨lo2, hi2, op2⟩ (R : Int) back W2 X.out.tr (by have := X.out.hn; omega)
      obtain ⟨DM, hDM⟩ : ∃ DM, rowsM ⟨lo2, hi2, op2⟩ es (R : Int) = DM := ⟨_, rfl⟩
      have HDM := Lib.hid hDM
      rw [hDM] at Hrw
      unfold Sp.v at Hrw
      have Hrw := Lib.hid Hrw
      clear hb2 hn2 hbW2 hW2 hbx hDM hR HW1 Hbt Hnr
      go_wp2_with fail
      rw [HW2.out, Hbx.out]
      refine Hrw.out.mono ?_
      rintro e w3 ⟨u1, rfl, hev1, hb3⟩
      obtain ⟨b1, P, c1, rfl, hE1⟩ := ev_lt hev1
      have E1 := Lib.hid hE1
      clear t0 t1 s0 s1 s2 a0 a1 a2 a3
      replace X := Lib.hid (X.out.ext hb3)
      replace SP := Lib.hid (SP.out.ext hb3)
      replace A := Lib.hid (A.out.ext hb3)
      have t0 := X.out.t.c0
      have t1 := X.out.t.c1
      have s0 := SP.out.c0
      have s1 := SP.out.c1
      have s2 := SP.out.c2
      have a0 := A.out.c0
      have a1 := A.out.c1
      have a2 := A.out.c2
      have a3 := A.out.c3
      dsimp only at s0 s1 s2
      have Hrw2 := rows_any p N es H ⟨lo2, hi2, op2⟩ ((R : Int) + 1) back w3 X.out.tr (by have := X.out.hn; omega)
      obtain ⟨DS, hDS⟩ : ∃ DS, rowsM ⟨lo2, hi2, op2⟩ es ((R : Int) + 1) = DS := ⟨_, rfl⟩
      have HDS := Lib.hid hDS
      rw [hDS] at Hrw2
      unfold Sp.v at Hrw2
      have Hrw2 := Lib.hid Hrw2
      clear hev1 hE1 hb3 Hrw HW2 Hbx hDS hUM eR
      go_wp2_with fail
      refine Hrw2.out.mono ?_
      rintro e w4 ⟨u2, rfl, hev2, hb4⟩
      obtain ⟨b2, Q, c2, rfl, hE2⟩ := ev_lt hev2
      have E2 := Lib.hid hE2
      clear t0 t1 s0 s1 s2 a0 a1 a2 a3
      replace X := Lib.hid (X.out.ext hb4)
      replace SP := Lib.hid (SP.out.ext hb4)
      replace A := Lib.hid (A.out.ext hb4)
      replace E1 := Lib.hid (E1.out.ext hb4)
      obtain ⟨F, hFF⟩ : ∃ F, endL ⟨lo2, hi2, op2⟩ es back = F := ⟨_, rfl⟩
      have HFF := Lib.hid hFF
      have hPQ := more_nums ⟨lo2, hi2, op2⟩ es R back
      rw [HDM.out, HDS.out, hFF] at hPQ
      have eP : rowsL ⟨lo2, hi2, op2⟩ es (R : Int) back = F.take R := hPQ.1
      have eQ : rowsL ⟨lo2, hi2, op2⟩ es ((R : Int) + 1) back = F.take (R + 1) := by rw [← hFF]; unfold rowsL endL; rw [in_turn]; rfl
      have E1 : Hid (LT w4 b1 (F.take R) P) := by show LT _ _ _ _; rw [← eP]; exact E1.out
      have E2 : Hid (LT w4 b2 (F.take (R + 1)) Q) := by show LT _ _ _ _; rw [← eQ]; exact E2.out
      obtain ⟨K, hK⟩ : ∃ K, F.length = K := ⟨_, rfl⟩
      have HK := Lib.hid hK
      have hP : P = min R K := by rw [← E1.out.hn, List.length_take, hK]
      have hQ : Q = min (R + 1) K := by rw [← E2.out.hn, List.length_take, hK]
      have HPQ := Lib.hid (And.intro hP hQ)
      have HD : Hid ((DM = decide (R < K)) ∧ (DS = decide (R + 1 < K))) := by
        rw [hK] at hPQ
        exact ⟨hPQ.2.1, hPQ.2.2⟩
      have hK9 : Hid (K ≤ 200) := by
        show _ ≤ _
        have h5 := inS_len ⟨lo2, hi2, op2⟩ es
        have h6 := X.out.hn
        have h7 : (endL ⟨lo2, hi2, op2⟩ es back).length = (inS ⟨lo2, hi2, op2⟩ es).length := by unfold endL; rw [turn_len]
        rw [hFF, hK] at h7
        omega
      have hP9 : P ≤ 200 := by have := hK9.out; omega
      have hPle : P ≤ Q := by omega
      have Hlen : Hid (∀ b, (endL ⟨lo2, hi2, op2⟩ es b).length = K) := fun b => by
        rw [← hK, ← hFF]; unfold endL; rw [turn_len, turn_len]
      clear hev2 hE2 hb4 Hrw2 hFF hPQ eP eQ hK hP hQ
      go_upto_region 10 with fail
      go_cut [13, 15, 110] from 19 (fun _ _ b wx => b = .bool false ∧ w4 = wx)
      case first =>
        by_cases hRK : R < K
        · have e1 : DM = true := by rw [HD.out.1]; exact decide_eq_true hRK
          obtain rfl : P = R := by have := HPQ.out.1; omega
          obtain rfl : Q = P + 1 := by have := HPQ.out.2; omega
          subst e1
          have d1 : (((P + 1 : Nat) : Int) != (P : Int)) = true := by simp; omega
          have d2 : (((P + 1 : Nat) : Int) != (P : Int) + 1) = false := by simp
          have d3 : decide ((P : Int) < ((P + 1 : Nat) : Int)) = true := by simp; omega
          have d4 : ((P : Int) + 1 != (P : Int)) = true := by simp; omega
          have d5 : decide ((P : Int) < (P : Int) + 1) = true := by simp; omega
          cases DS with
          | true =>
            go_wp2
            go_meet
            exact ⟨rfl, rfl⟩
          | false =>
            go_wp2
            go_meet
            exact ⟨rfl, rfl⟩
        · have e1 : DM = false := by rw [HD.out.1]; exact decide_eq_false hRK
          have e2 : DS = false := by rw [HD.out.2]; exact decide_eq_false (by omega)
          obtain rfl : P = K := by have := HPQ.out.1; omega
          obtain rfl : Q = P := by have := HPQ.out.2; omega
          subst e1
          subst e2
          go_wp2
          go_meet
          exact ⟨rfl, rfl⟩
      case rest =>
        obtain ⟨rfl, rfl⟩ := hcut
        have hPe : ∀ i, i < P → ea (F.take R) i = ea F i ∧ ea (F.take (R + 1)) i = ea F i := fun i hi => by
          have h5 := HPQ.out.1
          exact ⟨ea_tk F R i (by omega), ea_tk F (R + 1) i (by omega)⟩
        have HPe := Lib.hid hPe
        clear hPe HD
        go_wp2_with fail
        go_loopw [16] (fun i wr => ∃ k : Nat, i = .int .i64 k ∧ k ≤ P ∧ Hid (Below w4.heap.size w4 wr)) (fun i _ => P - (intOf i).toNat)
        case atStart => exact ⟨0, rfl, by omega, Below.refl _ _⟩
        case round =>
          obtain ⟨k, rfl, hk, hB⟩ := hrel
          by_cases hlt : k < P
          · obtain ⟨W, hW⟩ : ∃ W, wr.drew = W := ⟨_, rfl⟩
            have hbW : Below w4.heap.size w4 W := by rw [← hW]; exact hB.out.drew
            have E1w := E1.out.ext hbW
            have E2w := E2.out.ext hbW
            obtain ⟨g, o, rfl, hc⟩ := E1w.ents (by omega)
            obtain ⟨g2, o2, rfl, hc2⟩ := E2w.ents (by omega)
            obtain ⟨p0, p1⟩ := hc k hlt
            obtain ⟨p2, p3⟩ := hc2 k (by omega)
            rw [(HPe.out k hlt).1] at p0 p1
            rw [(HPe.out k hlt).2] at p2 p3
            generalize ea F k = y at *
            obtain ⟨y0, y1⟩ := y
            dsimp only at p0 p1 p2 p3
            have q0 : ∀ w', Ext W w' → w'.cell? ⟨g, o + k * 2, none⟩ = some (.string y0) := fun w' hx => by rw [hx.cell (p := ⟨g, o + k * 2, none⟩) (block_lt_of_cell p0)]; exact p0
            have q1 : ∀ w', Ext W w' → w'.cell? ⟨g, o + k * 2 + 1, none⟩ = some (.string y1) := fun w' hx => by rw [hx.cell (p := ⟨g, o + k * 2 + 1, none⟩) (block_lt_of_cell p1)]; exact p1
            have q2 : ∀ w', Ext W w' → w'.cell? ⟨g2, o2 + k * 2, none⟩ = some (.string y0) := fun w' hx => by rw [hx.cell (p := ⟨g2, o2 + k * 2, none⟩) (block_lt_of_cell p2)]; exact p2
            have q3 : ∀ w', Ext W w' → w'.cell? ⟨g2, o2 + k * 2 + 1, none⟩ = some (.string y1) := fun w' hx => by rw [hx.cell (p := ⟨g2, o2 + k * 2 + 1, none⟩) (block_lt_of_cell p3)]; exact p3
            have HW := Lib.hid hW
            have HB2 := Lib.hid hbW
            have i1 : (0 : Int) ≤ (k : Int) := by omega
            have i2 : (k : Int) < (P : Int) := by omega
            have i3 : (k : Int) < (Q : Int) := by omega
            have i4 : k < Q := by omega
            have z0 : IntKind.i64.wrap (k : Int) = (k : Int) := by rw [IntKind.wrap_i64]; omega
            clear hc hc2 p0 p1 p2 p3 hW hbW E1w E2w hB
            go_wp2_with fail
            refine wp_region_gr [(0, true), (1, true), (2, true), (3, true), (4, true), (5, true), (6, true), (7, true), (8, true)] (by kernel_rfl) (by kernel_rfl) (by kernel_rfl) (by kernel_rfl) (fun _ _ _ _ _ h => h) ?_
            rw [HW.out]
            iterate 9 (refine wpGr_read (o := ⟨_, _, _, _, _, _⟩) (v := ?_) rfl (by rfl) ?_ ?_; rotate_left; (intro w' hw'; go_simp; with_reducible rfl); simp only [Act.put, List.setIfInBounds_toArray, List.set_cons_zero, List.set_cons_succ])
            refine wpGr_done ?_
            clear q0 q1 q2 q3
            go_wp2_with fail
            go_roundw
            case rel => exact ⟨k + 1, by go_num, by omega, HB2⟩
            case measure => simp [intOf]; omega
          · obtain rfl : k = P := by omega
            have HX := Lib.hid (X.out.ext hB.out)
            have HSP := Lib.hid (SP.out.ext hB.out)
            have HA := Lib.hid (A.out.ext hB.out)
            have HE := Lib.hid (E2.out.ext hB.out)
            clear X SP A E1 E2 hB
            by_cases hK0 : 0 < K
            · have dK : decide (0 < K) = true := decide_eq_true hK0
              have hQ0 : 0 < Q := by have := HPQ.out.2; omega
              have dQ : decide (0 < Q) = true := decide_eq_true hQ0
              have dQ2 : decide (0 < (Q : Int)) = true := decide_eq_true (by omega)
              have dQ3 : (0 : Int) < (Q : Int) := by omega
              have t0 := HX.out.t.c0
              have t1 := HX.out.t.c1
              have s0 := HSP.out.c0
              have s1 := HSP.out.c1
              have s2 := HSP.out.c2
              have a1 := HA.out.c1
              dsimp only at s0 s1 s2
              have hfi := first_any p N es H ⟨lo2, hi2, op2⟩ wr HX.out.tr (by have := HX.out.hn; omega)
              rw [Hlen.out, dK] at hfi
              obtain ⟨yf, hyf⟩ : ∃ yf, ea (endL ⟨lo2, hi2, op2⟩ es false) 0 = yf := ⟨_, rfl⟩
              have Hyf := Lib.hid hyf
              rw [hyf] at hfi
              unfold Sp.v at hfi
              have Hfi := Lib.hid hfi
              clear hfi hyf
              go_wp2_with fail
              refine Hfi.out.mono ?_
              rintro e wa ⟨rfl, hba2⟩
              obtain ⟨W5, hW5, hn5, hbW5⟩ := alloc_own wa ET #[.string yf.k, .string yf.v]
              obtain ⟨bf, hbf⟩ : ∃ bf, wa.heap.size = bf := ⟨_, rfl⟩
              rw [hbf] at hn5
              have FB : Hid (EB W5 bf yf) := hn5
              clear t0 t1 s0 s1 s2 a1
              replace HX := Lib.hid (HX.out.ext hba2)
              replace HE := Lib.hid (HE.out.ext hba2)
              replace HSP := Lib.hid (HSP.out.ext hba2)
              replace HA := Lib.hid (HA.out.ext hba2)
              have HB := Lib.hid hbW5
              have SP5 := Lib.hid (HSP.out.ext hbW5)
              have A5 := Lib.hid (HA.out.ext hbW5)
              have X5 := Lib.hid (HX.out.ext hbW5)
              have t0 := X5.out.t.c0
              have t1 := X5.out.t.c1
              have s0 := SP5.out.c0
              have s1 := SP5.out.c1
              have s2 := SP5.out.c2
              have a1 := A5.out.c1
              rw [← hW5] at t0 t1 s0 s1 s2 a1
              dsimp only at s0 s1 s2
              have HW5 := Lib.hid hW5
              have Hbf := Lib.hid hbf
              clear hW5 hn5 hbW5 hba2 Hfi hbf HSP HA
              cases back with
              | false =>
                have ey : yf = ea F 0 := by rw [← Hyf.out, HFF.out]
                subst ey
                go_upto_region 20 with fail
                rw [HW5.out, Hbf.out]
                clear t0 t1 s0 s1 s2 a1
                clear HW5 Hbf X5 SP5 A5
                obtain ⟨W, hW⟩ : ∃ W, W5.drew = W := ⟨_, rfl⟩
                have hbd : Below wa.heap.size wa W := by rw [← hW]; exact HB.out.drew
                have hbe : Below W5.heap.size W5 W := by rw [← hW]; exact (Below.refl _ _).drew
                have XW := Lib.hid (HX.out.ext hbd)
                obtain ⟨g, o, rfl, hc⟩ := (HE.out.ext hbd).ents hQ0
                obtain ⟨p0, p1⟩ := hc 0 hQ0
                rw [Nat.zero_mul, Nat.add_zero, ea_tk F (R + 1) 0 (by omega)] at p0 p1
                have f0' := (FB.out.ext hbe)
                generalize ea F 0 = y at *
                obtain ⟨y0, y1⟩ := y
                dsimp only at p0 p1
                have q0 : ∀ w', Ext W w' → w'.cell? ⟨g, o, none⟩ = some (.string y0) := fun w' hx => by rw [hx.cell (p := ⟨g, o, none⟩) (block_lt_of_cell p0)]; exact p0
                have q1 : ∀ w', Ext W w' → w'.cell? ⟨g, o + 1, none⟩ = some (.string y1) := fun w' hx => by rw [hx.cell (p := ⟨g, o + 1, none⟩) (block_lt_of_cell p1)]; exact p1
                have q2 : ∀ w', Ext W w' → w'.cell? ⟨bf, 0, none⟩ = some (.string y0) := fun w' hx => (f0'.ext hx).c0
                have q3 : ∀ w', Ext W w' → w'.cell? ⟨bf, 1, none⟩ = some (.string y1) := fun w' hx => (f0'.ext hx).c1
                clear hc p0 p1 f0'
                have HW := Lib.hid hW
                have Hsu : Hid (∀ w', Below W.heap.size W w' → Calls Tryd.prog 7 #[] w' fun e w'' => e = .returned (.bool true) ∧ Below w'.heap.size w' w'') := fun w' hb => sure_any w' (Hg0.out (XW.out.b.trans (hb.mono XW.out.b.size)))
                clear hW hbd hbe
                go_wp2_with fail
                refine wp_region_gr [(0, true), (1, true), (2, true), (3, true), (4, true), (5, true), (6, true), (7, true), (8, true), (9, true), (10, true), (11, true), (12, true), (13, true), (14, true), (15, true), (16, true), (17, false), (18, true), (19, true)] (by kernel_rfl) (by kernel_rfl) (by kernel_rfl) (by kernel_rfl) (fun _ _ _ _ _ h => h) ?_
                rw [HW.out]
                iterate 17 (first | (refine wpGr_read (o := ⟨_, _, _, _, _, _⟩) (v := ?_) rfl (by rfl) ?_ ?_; rotate_left; (intro w' hw'; go_simp; with_reducible rfl); simp only [Act.put, List.setIfInBounds_toArray, List.set_cons_zero, List.set_cons_succ]) | (refine wpGr_skip (o := ⟨_, _, _, _, _, _⟩) rfl (by rfl) ?_; simp only [Act.put, List.setIfInBounds_toArray, List.set_cons_zero, List.set_cons_succ]))
                clear q0 q1 q2 q3
                refine wpGr_call (o := ⟨_, _, _, _, _, _⟩) rfl (by rfl) (fun K hK => ?_)
                go_simp
                refine (Hsu.out W (Below.refl _ _)).mono ?_
                rintro e w17 ⟨rfl, hb17⟩
                refine hK _ _ hb17 ?_
                clear hK K Hsu
                have HBz := Lib.hid (XW.out.b.trans (hb17.mono XW.out.b.size))
                clear hb17
                iterate 2 (first | (refine wpGr_read (o := ⟨_, _, _, _, _, _⟩) (v := ?_) rfl (by rfl) ?_ ?_; rotate_left; (intro w' hw'; go_simp; with_reducible rfl); simp only [Act.put, List.setIfInBounds_toArray, List.set_cons_zero, List.set_cons_succ]) | (refine wpGr_skip (o := ⟨_, _, _, _, _, _⟩) rfl (by rfl) ?_; simp only [Act.put, List.setIfInBounds_toArray, List.set_cons_zero, List.set_cons_succ]))
                refine wpGr_done ?_
                go_wp2_with fail
                go_ret
                exact ⟨rfl, HBz.out⟩
              | true =>
                have hla := last_any p N es H ⟨lo2, hi2, op2⟩ W5 X5.out.tr (by have := X5.out.hn; omega)
                rw [Hlen.out, dK, HFF.out] at hla
                unfold Sp.v at hla
                have Hla := Lib.hid hla
                clear hla
                go_wp2_with fail
                rw [HW5.out, Hbf.out]
                refine Hla.out.mono ?_
                rintro e w6 ⟨rfl, hb6⟩
                clear t0 t1 s0 s1 s2 a1
                clear SP5 A5 X5 HW5 Hla
                replace FB := Lib.hid (FB.out.ext hb6)
                have f0 := FB.out.fz 0
                have f1 := FB.out.fz 1
                have x0 := FB.out.c0
                have x1 := FB.out.c1
                obtain ⟨W6, hW6⟩ : ∃ W6, (w6.setCell ⟨bf, 0, none⟩ (.string (ea F 0).k)).setCell ⟨bf, 1, none⟩ (.string (ea F 0).v) = W6 := ⟨_, rfl⟩
                have fb6 := FB.out.put (ea F 0)
                have hb66 : Below wa.heap.size wa ((w6.setCell ⟨bf, 0, none⟩ (.string (ea F 0).k)).setCell ⟨bf, 1, none⟩ (.string (ea F 0).v)) := below_put (HB.out.trans (hb6.mono HB.out.size)) (by rw [Hbf.out]; exact Nat.le_refl _)
                rw [hW6] at fb6 hb66
                replace FB := Lib.hid fb6
                replace HB := Lib.hid hb66
                have HW6 := Lib.hid hW6
                clear hb6 hW6 fb6 hb66 Hbf
                go_upto_region 20 with fail
                rw [HW6.out]
                clear f0 f1 x0 x1 HW6
                obtain ⟨W, hW⟩ : ∃ W, W6.drew = W := ⟨_, rfl⟩
                have hbd : Below wa.heap.size wa W := by rw [← hW]; exact HB.out.drew
                have hbe : Below W6.heap.size W6 W := by rw [← hW]; exact (Below.refl _ _).drew
                have XW := Lib.hid (HX.out.ext hbd)
                obtain ⟨g, o, rfl, hc⟩ := (HE.out.ext hbd).ents hQ0
                obtain ⟨p0, p1⟩ := hc 0 hQ0
                rw [Nat.zero_mul, Nat.add_zero, ea_tk F (R + 1) 0 (by omega)] at p0 p1
                have f0' := (FB.out.ext hbe)
                generalize ea F 0 = y at *
                obtain ⟨y0, y1⟩ := y
                dsimp only at p0 p1
                have q0 : ∀ w', Ext W w' → w'.cell? ⟨g, o, none⟩ = some (.string y0) := fun w' hx => by rw [hx.cell (p := ⟨g, o, none⟩) (block_lt_of_cell p0)]; exact p0
                have q1 : ∀ w', Ext W w' → w'.cell? ⟨g, o + 1, none⟩ = some (.string y1) := fun w' hx => by rw [hx.cell (p := ⟨g, o + 1, none⟩) (block_lt_of_cell p1)]; exact p1
                have q2 : ∀ w', Ext W w' → w'.cell? ⟨bf, 0, none⟩ = some (.string y0) := fun w' hx => (f0'.ext hx).c0
                have q3 : ∀ w', Ext W w' → w'.cell? ⟨bf, 1, none⟩ = some (.string y1) := fun w' hx => (f0'.ext hx).c1
                clear hc p0 p1 f0'
                have HW := Lib.hid hW
                have Hsu : Hid (∀ w', Below W.heap.size W w' → Calls Tryd.prog 7 #[] w' fun e w'' => e = .returned (.bool true) ∧ Below w'.heap.size w' w'') := fun w' hb => sure_any w' (Hg0.out (XW.out.b.trans (hb.mono XW.out.b.size)))
                clear hW hbd hbe
                go_wp2_with fail
                refine wp_region_gr [(0, true), (1, true), (2, true), (3, true), (4, true), (5, true), (6, true), (7, true), (8, true), (9, true), (10, true), (11, true), (12, true), (13, true), (14, true), (15, true), (16, true), (17, false), (18, true), (19, true)] (by kernel_rfl) (by kernel_rfl) (by kernel_rfl) (by kernel_rfl) (fun _ _ _ _ _ h => h) ?_
                rw [HW.out]
                iterate 17 (first | (refine wpGr_read (o := ⟨_, _, _, _, _, _⟩) (v := ?_) rfl (by rfl) ?_ ?_; rotate_left; (intro w' hw'; go_simp; with_reducible rfl); simp only [Act.put, List.setIfInBounds_toArray, List.set_cons_zero, List.set_cons_succ]) | (refine wpGr_skip (o := ⟨_, _, _, _, _, _⟩) rfl (by rfl) ?_; simp only [Act.put, List.setIfInBounds_toArray, List.set_cons_zero, List.set_cons_succ]))
                clear q0 q1 q2 q3
                refine wpGr_call (o := ⟨_, _, _, _, _, _⟩) rfl (by rfl) (fun K hK => ?_)
                go_simp
                refine (Hsu.out W (Below.refl _ _)).mono ?_
                rintro e w17 ⟨rfl, hb17⟩
                refine hK _ _ hb17 ?_
                clear hK K Hsu
                have HBz := Lib.hid (XW.out.b.trans (hb17.mono XW.out.b.size))
                clear hb17
                iterate 2 (first | (refine wpGr_read (o := ⟨_, _, _, _, _, _⟩) (v := ?_) rfl (by rfl) ?_ ?_; rotate_left; (intro w' hw'; go_simp; with_reducible rfl); simp only [Act.put, List.setIfInBounds_toArray, List.set_cons_zero, List.set_cons_succ]) | (refine wpGr_skip (o := ⟨_, _, _, _, _, _⟩) rfl (by rfl) ?_; simp only [Act.put, List.setIfInBounds_toArray, List.set_cons_zero, List.set_cons_succ]))
                refine wpGr_done ?_
                go_wp2_with fail
                go_ret
                exact ⟨rfl, HBz.out⟩
            · have dK : decide (0 < K) = false := decide_eq_false hK0
              obtain rfl : Q = 0 := by have := HPQ.out.2; omega
              have t0 := HX.out.t.c0
              have t1 := HX.out.t.c1
              have s0 := HSP.out.c0
              have s1 := HSP.out.c1
              have s2 := HSP.out.c2
              have a1 := HA.out.c1
              dsimp only at s0 s1 s2
              have hfi := first_any p N es H ⟨lo2, hi2, op2⟩ wr HX.out.tr (by have := HX.out.hn; omega)
              rw [Hlen.out, dK] at hfi
              obtain ⟨yf, hyf⟩ : ∃ yf, ea (endL ⟨lo2, hi2, op2⟩ es false) 0 = yf := ⟨_, rfl⟩
              have Hyf := Lib.hid hyf
              rw [hyf] at hfi
              unfold Sp.v at hfi
              have Hfi := Lib.hid hfi
              clear hfi hyf
              go_wp2_with fail
              refine Hfi.out.mono ?_
              rintro e wa ⟨rfl, hba2⟩
              obtain ⟨W5, hW5, hn5, hbW5⟩ := alloc_own wa ET #[.string yf.k, .string yf.v]
              obtain ⟨bf, hbf⟩ : ∃ bf, wa.heap.size = bf := ⟨_, rfl⟩
              rw [hbf] at hn5
              have FB : Hid (EB W5 bf yf) := hn5
              clear t0 t1 s0 s1 s2 a1
              replace HX := Lib.hid (HX.out.ext hba2)
              replace HE := Lib.hid (HE.out.ext hba2)
              replace HSP := Lib.hid (HSP.out.ext hba2)
              replace HA := Lib.hid (HA.out.ext hba2)
              have HB := Lib.hid hbW5
              have SP5 := Lib.hid (HSP.out.ext hbW5)
              have A5 := Lib.hid (HA.out.ext hbW5)
              have X5 := Lib.hid (HX.out.ext hbW5)
              have t0 := X5.out.t.c0
              have t1 := X5.out.t.c1
              have s0 := SP5.out.c0
              have s1 := SP5.out.c1
              have s2 := SP5.out.c2
              have a1 := A5.out.c1
              rw [← hW5] at t0 t1 s0 s1 s2 a1
              dsimp only at s0 s1 s2
              have HW5 := Lib.hid hW5
              have Hbf := Lib.hid hbf
              clear hW5 hn5 hbW5 hba2 Hfi hbf HSP HA
              cases back with
              | false =>
                have ey : yf = ea F 0 := by rw [← Hyf.out, HFF.out]
                subst ey
                go_upto_region 20 with fail
                rw [HW5.out, Hbf.out]
                clear t0 t1 s0 s1 s2 a1
                clear HW5 Hbf X5 SP5 A5
                obtain ⟨W, hW⟩ : ∃ W, W5.drew = W := ⟨_, rfl⟩
                have hbd : Below wa.heap.size wa W := by rw [← hW]; exact HB.out.drew
                have hbe : Below W5.heap.size W5 W := by rw [← hW]; exact (Below.refl _ _).drew
                have XW := Lib.hid (HX.out.ext hbd)
                have HW := Lib.hid hW
                have Hsu : Hid (∀ w', Below W.heap.size W w' → Calls Tryd.prog 7 #[] w' fun e w'' => e = .returned (.bool true) ∧ Below w'.heap.size w' w'') := fun w' hb => sure_any w' (Hg0.out (XW.out.b.trans (hb.mono XW.out.b.size)))
                clear hW hbd hbe
                go_wp2_with fail
                refine wp_region_gr [(0, true), (1, true), (2, true), (3, true), (4, true), (5, true), (6, true), (7, true), (8, true), (9, true), (10, true), (11, true), (12, true), (13, true), (14, true), (15, true), (16, true), (17, false), (18, true), (19, true)] (by kernel_rfl) (by kernel_rfl) (by kernel_rfl) (by kernel_rfl) (fun _ _ _ _ _ h => h) ?_
                rw [HW.out]
                iterate 17 (first | (refine wpGr_read (o := ⟨_, _, _, _, _, _⟩) (v := ?_) rfl (by rfl) ?_ ?_; rotate_left; (intro w' hw'; go_simp; with_reducible rfl); simp only [Act.put, List.setIfInBounds_toArray, List.set_cons_zero, List.set_cons_succ]) | (refine wpGr_skip (o := ⟨_, _, _, _, _, _⟩) rfl (by rfl) ?_; simp only [Act.put, List.setIfInBounds_toArray, List.set_cons_zero, List.set_cons_succ]))
                refine wpGr_call (o := ⟨_, _, _, _, _, _⟩) rfl (by rfl) (fun K hK => ?_)
                go_simp
                refine (Hsu.out W (Below.refl _ _)).mono ?_
                rintro e w17 ⟨rfl, hb17⟩
                refine hK _ _ hb17 ?_
                clear hK K Hsu
                have HBz := Lib.hid (XW.out.b.trans (hb17.mono XW.out.b.size))
                clear hb17
                iterate 2 (first | (refine wpGr_read (o := ⟨_, _, _, _, _, _⟩) (v := ?_) rfl (by rfl) ?_ ?_; rotate_left; (intro w' hw'; go_simp; with_reducible rfl); simp only [Act.put, List.setIfInBounds_toArray, List.set_cons_zero, List.set_cons_succ]) | (refine wpGr_skip (o := ⟨_, _, _, _, _, _⟩) rfl (by rfl) ?_; simp only [Act.put, List.setIfInBounds_toArray, List.set_cons_zero, List.set_cons_succ]))
                refine wpGr_done ?_
                go_wp2_with fail
                go_ret
                exact ⟨rfl, HBz.out⟩
              | true =>
                have hla := last_any p N es H ⟨lo2, hi2, op2⟩ W5 X5.out.tr (by have := X5.out.hn; omega)
                rw [Hlen.out, dK, HFF.out] at hla
                unfold Sp.v at hla
                have Hla := Lib.hid hla
                clear hla
                go_wp2_with fail
                rw [HW5.out, Hbf.out]
                refine Hla.out.mono ?_
                rintro e w6 ⟨rfl, hb6⟩
                clear t0 t1 s0 s1 s2 a1
                clear SP5 A5 X5 HW5 Hla
                replace FB := Lib.hid (FB.out.ext hb6)
                have f0 := FB.out.fz 0
                have f1 := FB.out.fz 1
                have x0 := FB.out.c0
                have x1 := FB.out.c1
                obtain ⟨W6, hW6⟩ : ∃ W6, (w6.setCell ⟨bf, 0, none⟩ (.string (ea F 0).k)).setCell ⟨bf, 1, none⟩ (.string (ea F 0).v) = W6 := ⟨_, rfl⟩
                have fb6 := FB.out.put (ea F 0)
                have hb66 : Below wa.heap.size wa ((w6.setCell ⟨bf, 0, none⟩ (.string (ea F 0).k)).setCell ⟨bf, 1, none⟩ (.string (ea F 0).v)) := below_put (HB.out.trans (hb6.mono HB.out.size)) (by rw [Hbf.out]; exact Nat.le_refl _)
                rw [hW6] at fb6 hb66
                replace FB := Lib.hid fb6
                replace HB := Lib.hid hb66
                have HW6 := Lib.hid hW6
                clear hb6 hW6 fb6 hb66 Hbf
                go_upto_region 20 with fail
                rw [HW6.out]
                clear f0 f1 x0 x1 HW6
                obtain ⟨W, hW⟩ : ∃ W, W6.drew = W := ⟨_, rfl⟩
                have hbd : Below wa.heap.size wa W := by rw [← hW]; exact HB.out.drew
                have hbe : Below W6.heap.size W6 W := by rw [← hW]; exact (Below.refl _ _).drew
                have XW := Lib.hid (HX.out.ext hbd)
                have HW := Lib.hid hW
                have Hsu : Hid (∀ w', Below W.heap.size W w' → Calls Tryd.prog 7 #[] w' fun e w'' => e = .returned (.bool true) ∧ Below w'.heap.size w' w'') := fun w' hb => sure_any w' (Hg0.out (XW.out.b.trans (hb.mono XW.out.b.size)))
                clear hW hbd hbe
                go_wp2_with fail
                refine wp_region_gr [(0, true), (1, true), (2, true), (3, true), (4, true), (5, true), (6, true), (7, true), (8, true), (9, true), (10, true), (11, true), (12, true), (13, true), (14, true), (15, true), (16, true), (17, false), (18, true), (19, true)] (by kernel_rfl) (by kernel_rfl) (by kernel_rfl) (by kernel_rfl) (fun _ _ _ _ _ h => h) ?_
                rw [HW.out]
                iterate 17 (first | (refine wpGr_read (o := ⟨_, _, _, _, _, _⟩) (v := ?_) rfl (by rfl) ?_ ?_; rotate_left; (intro w' hw'; go_simp; with_reducible rfl); simp only [Act.put, List.setIfInBounds_toArray, List.set_cons_zero, List.set_cons_succ]) | (refine wpGr_skip (o := ⟨_, _, _, _, _, _⟩) rfl (by rfl) ?_; simp only [Act.put, List.setIfInBounds_toArray, List.set_cons_zero, List.set_cons_succ]))
                refine wpGr_call (o := ⟨_, _, _, _, _, _⟩) rfl (by rfl) (fun K hK => ?_)
                go_simp
                refine (Hsu.out W (Below.refl _ _)).mono ?_
                rintro e w17 ⟨rfl, hb17⟩
                refine hK _ _ hb17 ?_
                clear hK K Hsu
                have HBz := Lib.hid (XW.out.b.trans (hb17.mono XW.out.b.size))
                clear hb17
                iterate 2 (first | (refine wpGr_read (o := ⟨_, _, _, _, _, _⟩) (v := ?_) rfl (by rfl) ?_ ?_; rotate_left; (intro w' hw'; go_simp; with_reducible rfl); simp only [Act.put, List.setIfInBounds_toArray, List.set_cons_zero, List.set_cons_succ]) | (refine wpGr_skip (o := ⟨_, _, _, _, _, _⟩) rfl (by rfl) ?_; simp only [Act.put, List.setIfInBounds_toArray, List.set_cons_zero, List.set_cons_succ]))
                refine wpGr_done ?_
                go_wp2_with fail
                go_ret
                exact ⟨rfl, HBz.out⟩
end Go.Proofs.YtimdlgjgoggaiaaDoor
