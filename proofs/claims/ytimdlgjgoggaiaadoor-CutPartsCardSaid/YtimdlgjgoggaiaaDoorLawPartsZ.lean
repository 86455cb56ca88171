/-
  CutParts.
-/
import Derived.Test.YtimdlgjgoggaiaaDoorPieceZ
import Derived.Deep.Cut
namespace Go.Proofs.YtimdlgjgoggaiaaDoor
open Go Go.RowKit

set_option maxHeartbeats 4000000 in
set_option maxRecDepth 100000 in
theorem parts_any (n0 m0 : Nat) (lo hi : ByteArray) (op : Bool) (nx ny nz : Nat) (w : World) (h1 : n0 < 65536) (h2 : m0 < 65536) (h3 : nx < 65536) (h4 : ny < 65536) (h5 : nz < 65536) (hg : Hg w) :
    Calls Tryd.prog 4 #[.agg #[.int .u16 n0, .int .u16 m0], .agg #[.string lo, .string hi, .bool op], .agg #[.int .u16 nx, .int .u16 ny, .int .u16 nz]] w fun e w' => e = .returned (.bool true) ∧ Below w.heap.size w w' := by
  have Hg0 : Hid (∀ {w'}, Below w.heap.size w w' → Hg w') := fun h => hg.below h
  obtain ⟨W0, hW0, k1, k2, k3, hb0, hz0⟩ := three_own w #[.int .u16 n0, .int .u16 m0] #[.string lo, .string hi, .bool op] #[.int .u16 nx, .int .u16 ny, .int .u16 nz] ARR RSP AR3
  obtain ⟨N0, hN0⟩ : ∃ N0, n0 % 160 = N0 := ⟨_, rfl⟩
  have eN : (n0 : Int).tmod 160 = (N0 : Int) := by rw [Int.tmod_eq_emod_of_nonneg (by omega)]; omega
  have wN : IntKind.i64.wrap (N0 : Int) = (N0 : Int) := by rw [IntKind.wrap_i64]; omega
  have wM : IntKind.i64.wrap (m0 : Int) = (m0 : Int) := by rw [IntKind.wrap_i64]; omega
  have Hgr := Lib.hid (grown_any N0 m0 W0 (by omega) (by omega) (Hg0.out hb0))
  have SP0 : Hid (SpIn W0 (w.heap.size + 1) RSP ⟨lo, hi, op⟩) := k2
  have A0 : Hid (A3 W0 (w.heap.size + 1 + 1) nx ny nz) := k3
  have HB0 := Lib.hid hb0
  have HW0 := Lib.hid hW0
  have HN9 : Hid (N0 ≤ 200) := by show _ ≤ _; omega
  have Hz0 := Lib.hid hz0
  obtain ⟨bs, hbs⟩ : ∃ bs, w.heap.size + 1 = bs := ⟨_, rfl⟩
  obtain ⟨ba, hba⟩ : ∃ ba, bs + 1 = ba := ⟨_, rfl⟩
  have Hbs := Lib.hid (And.intro hbs hba)
  rw [hbs] at SP0
  rw [hbs, hba] at A0
  clear hW0 k1 k2 k3 hb0 hz0 hN0 hg hbs hba
  go_enter Tryd.func4, Tryd.ntmps4
  go_wp2_with fail
  rw [HW0.out, Hbs.out.1, Hbs.out.2]
  refine Hgr.out.mono ?_
  rintro e w1 ⟨p, H, es, l, rfl, ht, hl, hlen, hb1⟩
  replace ht := ht.tp
  obtain ⟨al, N, cl, rfl, hls, hlN, hlc⟩ := ev_ct hl
  rw [hlN]
  obtain ⟨W1, hW1, hn1, hbW1⟩ := alloc_own w1 TT #[.pointer p, .int .i64 N]
  obtain ⟨bt, hbt⟩ : ∃ bt, w1.heap.size = bt := ⟨_, rfl⟩
  rw [hbt] at hn1
  have hb01 := HB0.out.trans (hb1.mono HB0.out.size)
  have X : Hid (CT w W1 bt p es N H al cl) := ⟨hn1, ht.ext hbW1, hls.below hbW1 (Nat.le_refl _), hlN, by have := HN9.out; omega, hlc, hb01.trans (hbW1.mono hb01.size)⟩
  have SP := Lib.hid ((SP0.out.ext hb1).ext hbW1)
  have A := Lib.hid ((A0.out.ext hb1).ext hbW1)
  have hne1 : bt ≠ bs := by have h7 := SP0.out.lt; have h6 := hb1.size; omega
  have hne2 : ba ≠ bs := by have := Hbs.out.2; omega
  have Hne := Lib.hid (And.intro hne1 (And.intro hne2 (show w.heap.size ≤ bs by have := Hbs.out.1; omega)))
  have HW1 := Lib.hid hW1
  have Hbt := Lib.hid hbt
  have hN6 : N ≤ 200 := X.out.hl
  have t0 := X.out.t.c0
  have t1 := X.out.t.c1
  have s0 := SP.out.c0
  have s1 := SP.out.c1
  have s2 := SP.out.c2
  have a0 := A.out.c0
  have a1 := A.out.c1
  have a2 := A.out.c2
  rw [← hW1] at t0 t1 s0 s1 s2 a0 a1 a2
  clear hW1 hn1 hbW1 hb01 hb1 ht hl hlen hls hlN hlc Hgr HB0 HW0 SP0 A0 hne1 hne2 hbt
  by_cases g1 : 100 < lo.size
  · have d1 : decide (100 < (lo.size : Int)) = true := decide_eq_true (by omega)
    have Hsu := Lib.hid (sure_any W1 (Hg0.out X.out.b))
    go_wp2_with fail
    rw [HW1.out]
    refine Hsu.out.mono ?_
    rintro e w2 ⟨rfl, hb2⟩
    have HB := Lib.hid (X.out.b.trans (hb2.mono X.out.b.size))
    clear hb2 Hsu t0 t1 s0 s1 s2 a0 a1 a2
    go_wp2_with fail
    go_ret
    exact ⟨rfl, HB.out⟩
  · have d1 : decide (100 < (lo.size : Int)) = false := decide_eq_false (by omega)
    by_cases g2 : 100 < hi.size
    · have d2 : decide (100 < (hi.size : Int)) = true := decide_eq_true (by omega)
      have Hsu := Lib.hid (sure_any W1 (Hg0.out X.out.b))
      go_wp2_with fail
      rw [HW1.out]
      refine Hsu.out.mono ?_
      rintro e w2 ⟨rfl, hb2⟩
      have HB := Lib.hid (X.out.b.trans (hb2.mono X.out.b.size))
      clear hb2 Hsu t0 t1 s0 s1 s2 a0 a1 a2
      go_wp2_with fail
      go_ret
      exact ⟨rfl, HB.out⟩
    · have d2 : decide (100 < (hi.size : Int)) = false := decide_eq_false (by omega)
      have Hnr := near_any ⟨lo, hi, op⟩ al N cl es nx ny W1 X.out.hn X.out.l (by omega) h3 h4
      obtain ⟨sp, hsp⟩ : ∃ sp, nearS ⟨lo, hi, op⟩ es nx ny = sp := ⟨_, rfl⟩
      rw [hsp] at Hnr
      obtain ⟨lo2, hi2, op2⟩ := sp
      unfold Sp.v at Hnr
      have Hnr := Lib.hid Hnr
      clear hsp
      go_wp2_with fail
      rw [HW1.out, Hbt.out]
      refine Hnr.out.mono ?_
      rintro e w2 ⟨rfl, hb2⟩
      obtain ⟨W2, hW2, hn2, hbW2⟩ := alloc_own w2 SPT #[.string lo2, .string hi2, .bool op2]
      obtain ⟨bx, hbx⟩ : ∃ bx, w2.heap.size = bx := ⟨_, rfl⟩
      rw [hbx] at hn2
      clear t0 t1 s0 s1 s2 a0 a1 a2
      replace X := Lib.hid (X.out.ext hb2)
      replace A := Lib.hid (A.out.ext hb2)
      replace X := Lib.hid (X.out.ext hbW2)
      replace A := Lib.hid (A.out.ext hbW2)
      have SP : Hid (SpIn W2 bx SPT ⟨lo2, hi2, op2⟩) := hn2
      have t0 := X.out.t.c0
      have t1 := X.out.t.c1
      have s0 := SP.out.c0
      have s1 := SP.out.c1
      have s2 := SP.out.c2
      dsimp only at s0 s1 s2
      rw [← hW2] at t0 t1 s0 s1 s2
      have HW2 := Lib.hid hW2
      have Hbx := Lib.hid hbx
      have Hrm := remove_any p es H ⟨lo2, hi2, op2⟩ W2 X.out.tr (by have := X.out.hn; omega)
      rw [X.out.hn] at Hrm
      obtain ⟨I, hI⟩ : ∃ I, inS ⟨lo2, hi2, op2⟩ es = I := ⟨_, rfl⟩
      obtain ⟨O, hO⟩ : ∃ O, outS ⟨lo2, hi2, op2⟩ es = O := ⟨_, rfl⟩
      obtain ⟨K, hK⟩ : ∃ K, I.length = K := ⟨_, rfl⟩
      obtain ⟨M, hM⟩ : ∃ M, O.length = M := ⟨_, rfl⟩
      have Hio : Hid (K + M = N) := by
        show _ = _
        rw [← hK, ← hM, ← hI, ← hO, in_out, X.out.hn]
      rw [hI, hO, hK, hM] at Hrm
      have HI := Lib.hid hI
      have HO := Lib.hid hO
      have HK := Lib.hid hK
      have HM := Lib.hid hM
      unfold Sp.v at Hrm
      have Hrm := Lib.hid Hrm
      clear hb2 hn2 hbW2 hW2 hbx hI hO hK hM HW1 Hbt Hnr
      go_wp2_with fail
      rw [HW2.out, Hbx.out]
      refine Hrm.out.mono ?_
      rintro e w3 ⟨p3, H3, rfl, ht3, hb3⟩
      obtain ⟨W3, hW3, hn3, hbW3⟩ := alloc_own w3 TT #[.pointer p3, .int .i64 M]
      obtain ⟨bu, hbu⟩ : ∃ bu, w3.heap.size = bu := ⟨_, rfl⟩
      rw [hbu] at hn3
      have U : Hid (UT W3 bu p3 O M H3) := ⟨hn3, ht3.ext hbW3, HM.out⟩
      clear t0 t1 s0 s1 s2
      replace X := Lib.hid (X.out.ext hb3)
      replace A := Lib.hid (A.out.ext hb3)
      replace SP := Lib.hid (SP.out.ext hb3)
      replace X := Lib.hid (X.out.ext hbW3)
      replace A := Lib.hid (A.out.ext hbW3)
      replace SP := Lib.hid (SP.out.ext hbW3)
      have HW3 := Lib.hid hW3
      have Hbu := Lib.hid hbu
      clear hb3 ht3 hn3 hbW3 hW3 hbu Hrm HW2 Hbx
      go_upto_region 8 with fail
      rw [HW3.out, Hbu.out]
      clear HW3 Hbu
      go_cut [83] from 25 (fun b wx => b = .bool false ∧ Hid (Below W3.heap.size W3 wx))
      case first =>
        obtain ⟨W, hW⟩ : ∃ W, W3.drew = W := ⟨_, rfl⟩
        have hbd : Below W3.heap.size W3 W := by rw [← hW]; exact (Below.refl _ _).drew
        replace X := Lib.hid (X.out.ext hbd)
        replace SP := Lib.hid (SP.out.ext hbd)
        replace U := Lib.hid (U.out.ext hbd)
        have q0 : ∀ w', Ext W w' → w'.cell? ⟨bt, 0, none⟩ = some (.pointer p) := fun w' hx => (X.out.t.ext hx).c0
        have q1 : ∀ w', Ext W w' → w'.cell? ⟨bt, 1, none⟩ = some (.int .i64 N) := fun w' hx => (X.out.t.ext hx).c1
        have q2 : ∀ w', Ext W w' → w'.cell? ⟨bu, 0, none⟩ = some (.pointer p3) := fun w' hx => (U.out.t.ext hx).c0
        have q3 : ∀ w', Ext W w' → w'.cell? ⟨bu, 1, none⟩ = some (.int .i64 M) := fun w' hx => (U.out.t.ext hx).c1
        have q4 : ∀ w', Ext W w' → w'.cell? ⟨bx, 0, none⟩ = some (.string lo2) := fun w' hx => (SP.out.ext hx).c0
        have q5 : ∀ w', Ext W w' → w'.cell? ⟨bx, 1, none⟩ = some (.string hi2) := fun w' hx => (SP.out.ext hx).c1
        have q6 : ∀ w', Ext W w' → w'.cell? ⟨bx, 2, none⟩ = some (.bool op2) := fun w' hx => (SP.out.ext hx).c2
        have C1 : Hid (∀ x, Below W.heap.size W x → Calls Tryd.prog 18 #[.agg #[.pointer p3, .int .i64 M], .agg #[.string lo2, .string hi2, .bool op2]] x fun e w' => e = .returned (.int .i64 (0 : Nat)) ∧ Below x.heap.size x w') := fun x hx => by
          have h := count_any p3 M O H3 ⟨lo2, hi2, op2⟩ x (U.out.tr.ext hx) (by have h6 := U.out.hn; have h7 := Hio.out; omega)
          rw [← HO.out, in_out0] at h
          exact h
        have C2 : Hid (∀ x, Below W.heap.size W x → Calls Tryd.prog 18 #[.agg #[.pointer p, .int .i64 N], .agg #[.string lo2, .string hi2, .bool op2]] x fun e w' => e = .returned (.int .i64 K) ∧ Below x.heap.size x w') := fun x hx => by
          have h := count_any p N es H ⟨lo2, hi2, op2⟩ x (X.out.tr.ext hx) (by have h6 := X.out.hn; omega)
          rw [HI.out, HK.out] at h
          exact h
        have L1 := Lib.hid (fun x => len_any p3 (M : Int) x)
        have L2 := Lib.hid (fun x => len_any p (N : Int) x)
        have z1 : (M : Int) + (K : Int) = (N : Int) := by have := Hio.out; omega
        have z2 : IntKind.i64.wrap ((M : Int) + (K : Int)) = (N : Int) := by have := Hio.out; rw [IntKind.wrap_i64]; omega
        have z3 : IntKind.i64.wrap (N : Int) = (N : Int) := by rw [IntKind.wrap_i64]; omega
        have d1 : ((N : Int) != (N : Int)) = false := by simp
        have d2 : ((K : Int) != (K : Int)) = false := by simp
        have HW := Lib.hid hW
        have HBd := Lib.hid hbd
        clear hW hbd
        refine wp_region_gr [(0, true), (1, true), (2, false), (3, true), (4, true), (5, true), (7, true), (9, true), (6, false), (8, true), (10, false), (11, true), (12, true), (13, true), (14, true), (15, true), (16, true), (17, false), (18, true), (19, true)] (by kernel_rfl) (by kernel_rfl) (by kernel_rfl) (by kernel_rfl) (fun _ _ _ _ _ h => h) ?_
        rw [HW.out]
        iterate 2 (first | (refine wpGr_read (o := ⟨_, _, _, _, _, _⟩) (v := ?_) rfl (by rfl) ?_ ?_; rotate_left; (intro w' hw'; go_simp; with_reducible rfl); simp only [Act.put, List.setIfInBounds_toArray, List.set_cons_zero, List.set_cons_succ]) | (refine wpGr_skip (o := ⟨_, _, _, _, _, _⟩) rfl (by rfl) ?_; simp only [Act.put, List.setIfInBounds_toArray, List.set_cons_zero, List.set_cons_succ]))
        refine wpGr_call (o := ⟨_, _, _, _, _, _⟩) rfl (by rfl) (fun K hK => ?_)
        go_simp
        refine (C1.out W (Below.refl _ _)).mono ?_
        rintro e x1 ⟨rfl, hc1⟩
        refine hK _ _ hc1 ?_
        clear hK K
        have B1 := Lib.hid hc1
        replace q0 : ∀ w', Ext x1 w' → w'.cell? ⟨bt, 0, none⟩ = some (.pointer p) := fun w' hx => q0 w' (hc1.trans (hx.mono hc1.size))
        replace q1 : ∀ w', Ext x1 w' → w'.cell? ⟨bt, 1, none⟩ = some (.int .i64 N) := fun w' hx => q1 w' (hc1.trans (hx.mono hc1.size))
        replace q2 : ∀ w', Ext x1 w' → w'.cell? ⟨bu, 0, none⟩ = some (.pointer p3) := fun w' hx => q2 w' (hc1.trans (hx.mono hc1.size))
        replace q3 : ∀ w', Ext x1 w' → w'.cell? ⟨bu, 1, none⟩ = some (.int .i64 M) := fun w' hx => q3 w' (hc1.trans (hx.mono hc1.size))
        replace q4 : ∀ w', Ext x1 w' → w'.cell? ⟨bx, 0, none⟩ = some (.string lo2) := fun w' hx => q4 w' (hc1.trans (hx.mono hc1.size))
        replace q5 : ∀ w', Ext x1 w' → w'.cell? ⟨bx, 1, none⟩ = some (.string hi2) := fun w' hx => q5 w' (hc1.trans (hx.mono hc1.size))
        replace q6 : ∀ w', Ext x1 w' → w'.cell? ⟨bx, 2, none⟩ = some (.bool op2) := fun w' hx => q6 w' (hc1.trans (hx.mono hc1.size))
        clear hc1 C1
        iterate 5 (first | (refine wpGr_read (o := ⟨_, _, _, _, _, _⟩) (v := ?_) rfl (by rfl) ?_ ?_; rotate_left; (intro w' hw'; go_simp; with_reducible rfl); simp only [Act.put, List.setIfInBounds_toArray, List.set_cons_zero, List.set_cons_succ]) | (refine wpGr_skip (o := ⟨_, _, _, _, _, _⟩) rfl (by rfl) ?_; simp only [Act.put, List.setIfInBounds_toArray, List.set_cons_zero, List.set_cons_succ]))
        refine wpGr_call (o := ⟨_, _, _, _, _, _⟩) rfl (by rfl) (fun K hK => ?_)
        go_simp
        refine (L1.out x1).mono ?_
        rintro e x2 ⟨rfl, hc2⟩
        refine hK _ _ hc2 ?_
        clear hK K
        have B2 := Lib.hid (B1.out.trans (hc2.mono B1.out.size))
        replace q0 : ∀ w', Ext x2 w' → w'.cell? ⟨bt, 0, none⟩ = some (.pointer p) := fun w' hx => q0 w' (hc2.trans (hx.mono hc2.size))
        replace q1 : ∀ w', Ext x2 w' → w'.cell? ⟨bt, 1, none⟩ = some (.int .i64 N) := fun w' hx => q1 w' (hc2.trans (hx.mono hc2.size))
        replace q4 : ∀ w', Ext x2 w' → w'.cell? ⟨bx, 0, none⟩ = some (.string lo2) := fun w' hx => q4 w' (hc2.trans (hx.mono hc2.size))
        replace q5 : ∀ w', Ext x2 w' → w'.cell? ⟨bx, 1, none⟩ = some (.string hi2) := fun w' hx => q5 w' (hc2.trans (hx.mono hc2.size))
        replace q6 : ∀ w', Ext x2 w' → w'.cell? ⟨bx, 2, none⟩ = some (.bool op2) := fun w' hx => q6 w' (hc2.trans (hx.mono hc2.size))
        clear hc2 q2 q3 L1
        iterate 1 (first | (refine wpGr_read (o := ⟨_, _, _, _, _, _⟩) (v := ?_) rfl (by rfl) ?_ ?_; rotate_left; (intro w' hw'; go_simp; with_reducible rfl); simp only [Act.put, List.setIfInBounds_toArray, List.set_cons_zero, List.set_cons_succ]) | (refine wpGr_skip (o := ⟨_, _, _, _, _, _⟩) rfl (by rfl) ?_; simp only [Act.put, List.setIfInBounds_toArray, List.set_cons_zero, List.set_cons_succ]))
        refine wpGr_call (o := ⟨_, _, _, _, _, _⟩) rfl (by rfl) (fun K hK => ?_)
        go_simp
        refine (L2.out x2).mono ?_
        rintro e x3 ⟨rfl, hc3⟩
        refine hK _ _ hc3 ?_
        clear hK K
        have B3 := Lib.hid (B2.out.trans (hc3.mono B2.out.size))
        replace q0 : ∀ w', Ext x3 w' → w'.cell? ⟨bt, 0, none⟩ = some (.pointer p) := fun w' hx => q0 w' (hc3.trans (hx.mono hc3.size))
        replace q1 : ∀ w', Ext x3 w' → w'.cell? ⟨bt, 1, none⟩ = some (.int .i64 N) := fun w' hx => q1 w' (hc3.trans (hx.mono hc3.size))
        replace q4 : ∀ w', Ext x3 w' → w'.cell? ⟨bx, 0, none⟩ = some (.string lo2) := fun w' hx => q4 w' (hc3.trans (hx.mono hc3.size))
        replace q5 : ∀ w', Ext x3 w' → w'.cell? ⟨bx, 1, none⟩ = some (.string hi2) := fun w' hx => q5 w' (hc3.trans (hx.mono hc3.size))
        replace q6 : ∀ w', Ext x3 w' → w'.cell? ⟨bx, 2, none⟩ = some (.bool op2) := fun w' hx => q6 w' (hc3.trans (hx.mono hc3.size))
        clear hc3 L2
        iterate 6 (first | (refine wpGr_read (o := ⟨_, _, _, _, _, _⟩) (v := ?_) rfl (by rfl) ?_ ?_; rotate_left; (intro w' hw'; go_simp; with_reducible rfl); simp only [Act.put, List.setIfInBounds_toArray, List.set_cons_zero, List.set_cons_succ]) | (refine wpGr_skip (o := ⟨_, _, _, _, _, _⟩) rfl (by rfl) ?_; simp only [Act.put, List.setIfInBounds_toArray, List.set_cons_zero, List.set_cons_succ]))
        clear q0 q1 q4 q5 q6
        refine wpGr_call (o := ⟨_, _, _, _, _, _⟩) rfl (by rfl) (fun K hK => ?_)
        go_simp
        refine (C2.out x3 B3.out).mono ?_
        rintro e x4 ⟨rfl, hc4⟩
        refine hK _ _ hc4 ?_
        clear hK K
        have B4 := Lib.hid (HBd.out.trans ((B3.out.trans (hc4.mono B3.out.size)).mono HBd.out.size))
        clear hc4
        iterate 2 (first | (refine wpGr_read (o := ⟨_, _, _, _, _, _⟩) (v := ?_) rfl (by rfl) ?_ ?_; rotate_left; (intro w' hw'; go_simp; with_reducible rfl); simp only [Act.put, List.setIfInBounds_toArray, List.set_cons_zero, List.set_cons_succ]) | (refine wpGr_skip (o := ⟨_, _, _, _, _, _⟩) rfl (by rfl) ?_; simp only [Act.put, List.setIfInBounds_toArray, List.set_cons_zero, List.set_cons_succ]))
        refine wpGr_done ?_
        go_wp2
        go_meet
        exact ⟨rfl, B4.out⟩
      case rest =>
        obtain ⟨rfl, hbc⟩ := hcut
        replace X := Lib.hid (X.out.ext hbc.out)
        replace SP := Lib.hid (SP.out.ext hbc.out)
        replace U := Lib.hid (U.out.ext hbc.out)
        replace A := Lib.hid (A.out.ext hbc.out)
        clear hbc
        have t0 := X.out.t.c0
        have t1 := X.out.t.c1
        have s0 := SP.out.c0
        have s1 := SP.out.c1
        have s2 := SP.out.c2
        dsimp only at s0 s1 s2
        have hra := rows_any p N es H ⟨lo2, hi2, op2⟩ 5000 false wc X.out.tr (by have := X.out.hn; omega)
        rw [rows_all (by have := X.out.hn; omega), HI.out] at hra
        obtain ⟨D1, hD1⟩ : ∃ D1, rowsM ⟨lo2, hi2, op2⟩ es 5000 = D1 := ⟨_, rfl⟩
        have HD1 := Lib.hid hD1
        rw [hD1] at hra
        unfold Sp.v at hra
        have Hra := Lib.hid hra
        clear hra hD1
        go_wp2_with fail
        refine Hra.out.mono ?_
        rintro e w4 ⟨v1, rfl, hev1, hb4⟩
        obtain ⟨b1, K1, c1, rfl, hE1⟩ := ev_lt (show EV entE w4 v1 I from hev1)
        have e11 : K1 = K := by rw [← hE1.hn]; exact HK.out
        subst e11
        have E1 := Lib.hid hE1
        clear t0 t1 s0 s1 s2
        replace X := Lib.hid (X.out.ext hb4)
        replace SP := Lib.hid (SP.out.ext hb4)
        replace U := Lib.hid (U.out.ext hb4)
        replace A := Lib.hid (A.out.ext hb4)
        have t0 := X.out.t.c0
        have t1 := X.out.t.c1
        have s0 := SP.out.c0
        have s1 := SP.out.c1
        have s2 := SP.out.c2
        dsimp only at s0 s1 s2
        have hrb := rows_any p N es H ⟨lo2, hi2, op2⟩ 5000 true w4 X.out.tr (by have := X.out.hn; omega)
        rw [rows_all (by have := X.out.hn; omega), HI.out, HD1.out] at hrb
        unfold Sp.v at hrb
        have Hrb := Lib.hid hrb
        clear hrb hb4 hev1 hE1 Hra
        go_wp2_with fail
        refine Hrb.out.mono ?_
        rintro e w5 ⟨v2, rfl, hev2, hb5⟩
        obtain ⟨b2, K2, c2, rfl, hE2⟩ := ev_lt (show EV entE w5 v2 I.reverse from hev2)
        have e22 : K2 = K1 := by rw [← hE2.hn, List.length_reverse]; exact HK.out
        subst e22
        have E2 := Lib.hid hE2
        clear t0 t1 s0 s1 s2
        replace X := Lib.hid (X.out.ext hb5)
        replace SP := Lib.hid (SP.out.ext hb5)
        replace U := Lib.hid (U.out.ext hb5)
        replace A := Lib.hid (A.out.ext hb5)
        replace E1 := Lib.hid (E1.out.ext hb5)
        have dK : ((K2 : Int) != (K2 : Int)) = false := by simp
        have hK9 : K2 ≤ 200 := by have := Hio.out; omega
        clear hb5 hev2 hE2 Hrb
        go_wp2_with fail
        go_loopw [17, 18, 19, 20, 21] (fun i _ _ _ _ wr => ∃ k : Nat, i = .int .i64 k ∧ k ≤ K2 ∧ Hid (Below w5.heap.size w5 wr)) (fun i _ _ _ _ _ => K2 - (intOf i).toNat)
        case atStart => exact ⟨0, rfl, by omega, Below.refl _ _⟩
        case round =>
          obtain ⟨k, rfl, hk, hB⟩ := hrel
          by_cases hlt : k < K2
          · have hkI : k < I.length := by rw [HK.out]; exact hlt
            have hmem : ea I k ∈ I := ea_mem hkI
            have hmem2 : ea I k ∈ inS ⟨lo2, hi2, op2⟩ es := by rw [HI.out]; exact hmem
            have hg1 := get_mem X.out.srt (inS_mem.1 hmem2).1
            have hg2 := get_gone X.out.srt ⟨lo2, hi2, op2⟩ hmem2
            rw [HO.out] at hg2
            obtain ⟨W, hW⟩ : ∃ W, wr.drew = W := ⟨_, rfl⟩
            have hbW : Below w5.heap.size w5 W := by rw [← hW]; exact hB.out.drew
            obtain ⟨g, o, ha1, hc⟩ := E1.out.ents (by omega)
            obtain ⟨g2, o2, ha2, hc2⟩ := E2.out.ents (by omega)
            subst ha1 ha2
            obtain ⟨dd0, dd1⟩ := hc k hlt
            have hq9 : K2 - 1 - k < K2 := by omega
            obtain ⟨dd2, dd3⟩ := hc2 (K2 - 1 - k) hq9
            rw [ea_rev I (K2 - 1 - k) (by rw [HK.out]; exact hq9), HK.out, show K2 - 1 - (K2 - 1 - k) = k by omega] at dd2 dd3
            obtain ⟨Q, hQ⟩ : ∃ Q, K2 - 1 - k = Q := ⟨_, rfl⟩
            rw [hQ] at dd2 dd3 hq9
            have HP := Lib.hid (And.intro (And.intro dd0 dd1) (And.intro dd2 dd3))
            have X1 := Lib.hid (X.out.ext hbW)
            have U1 := Lib.hid (U.out.ext hbW)
            have hget := get_any p N es H (ea I k).k W X1.out.tr
            rw [hg1.1, hg1.2] at hget
            have Hget := Lib.hid hget
            have Hgu : Hid (∀ x, Below w5.heap.size w5 x → Calls Tryd.prog 19 #[.agg #[.pointer p3, .int .i64 M], .string (ea I k).k] x fun e w' => ∃ s, e = .returned (.tuple #[.string s, .bool false]) ∧ Below x.heap.size x w') := fun x hx => by
              have h := get_any p3 M O H3 (ea I k).k x (U.out.tr.ext hx)
              rw [hg2] at h
              exact h.mono fun e w' ⟨h1, h2⟩ => ⟨_, h1, h2⟩
            have q0 : ∀ w', Ext W w' → w'.cell? ⟨bt, 0, none⟩ = some (.pointer p) := fun w' hx => (X1.out.t.ext hx).c0
            have q1 : ∀ w', Ext W w' → w'.cell? ⟨bt, 1, none⟩ = some (.int .i64 N) := fun w' hx => (X1.out.t.ext hx).c1
            have Hcell : Hid (∀ x, Below w5.heap.size w5 x → (x.cell? ⟨g, o + k * 2, none⟩ = some (.string (ea I k).k) ∧ x.cell? ⟨g, o + k * 2 + 1, none⟩ = some (.string (ea I k).v)) ∧ x.cell? ⟨g2, o2 + Q * 2, none⟩ = some (.string (ea I k).k) ∧ x.cell? ⟨g2, o2 + Q * 2 + 1, none⟩ = some (.string (ea I k).v)) := fun x hx =>
              ⟨⟨by rw [hx.cell (p := ⟨g, o + k * 2, none⟩) (block_lt_of_cell dd0)]; exact dd0, by rw [hx.cell (p := ⟨g, o + k * 2 + 1, none⟩) (block_lt_of_cell dd1)]; exact dd1⟩,
               by rw [hx.cell (p := ⟨g2, o2 + Q * 2, none⟩) (block_lt_of_cell dd2)]; exact dd2, by rw [hx.cell (p := ⟨g2, o2 + Q * 2 + 1, none⟩) (block_lt_of_cell dd3)]; exact dd3⟩
            generalize ea I k = y at *
            obtain ⟨y0, y1⟩ := y
            dsimp only at Hget Hgu Hcell
            have q2 : ∀ w', Ext W w' → w'.cell? ⟨g, o + k * 2, none⟩ = some (.string y0) := fun w' hx => (Hcell.out w' (hbW.trans (hx.mono hbW.size))).1.1
            have HW := Lib.hid hW
            have HBW := Lib.hid hbW
            have i1 : (0 : Int) ≤ (k : Int) := by omega
            have i2 : (k : Int) < (K2 : Int) := by omega
            have z0 : IntKind.i64.wrap (k : Int) = (k : Int) := by rw [IntKind.wrap_i64]; omega
            have z1 : (K2 : Int) - 1 - (k : Int) = (Q : Int) := by omega
            have z2 : IntKind.i64.wrap ((K2 : Int) - 1 - (k : Int)) = (Q : Int) := by rw [IntKind.wrap_i64]; omega
            have z3 : IntKind.i64.wrap ((K2 : Int) - 1) = (K2 : Int) - 1 := by rw [IntKind.wrap_i64]; omega
            have z4 : IntKind.i64.wrap (Q : Int) = (Q : Int) := by rw [IntKind.wrap_i64]; omega
            have z5 : (0 : Int) ≤ (Q : Int) := by omega
            have z6 : (Q : Int) < (K2 : Int) := by omega
            clear hkI hmem hmem2 hg1 hg2 hW hbW hc hc2 dd0 dd1 dd2 dd3 hQ HP hget U1
            go_wp2_with fail
            refine wp_region_gr [(0, true), (1, true), (2, true), (3, true), (4, true), (5, true), (6, false), (7, true), (8, true), (9, true), (10, true), (11, true)] (by kernel_rfl) (by kernel_rfl) (by kernel_rfl) (by kernel_rfl) (fun _ _ _ _ _ h => h) ?_
            rw [HW.out]
            iterate 6 (refine wpGr_read (o := ⟨_, _, _, _, _, _⟩) (v := ?_) rfl (by rfl) ?_ ?_; rotate_left; (intro w' hw'; go_simp; with_reducible rfl); simp only [Act.put, List.setIfInBounds_toArray, List.set_cons_zero, List.set_cons_succ])
            clear q0 q1 q2
            refine wpGr_call (o := ⟨_, _, _, _, _, _⟩) rfl (by rfl) (fun K hK => ?_)
            go_simp
            refine Hget.out.mono ?_
            rintro e x1 ⟨rfl, hb1⟩
            refine hK _ _ hb1 ?_
            clear hK K Hget HW
            have HB1 := Lib.hid (HBW.out.trans (hb1.mono HBW.out.size))
            clear hb1
            iterate 5 (refine wpGr_read (o := ⟨_, _, _, _, _, _⟩) (v := ?_) rfl (by rfl) ?_ ?_; rotate_left; (intro w' hw'; go_simp; with_reducible rfl); simp only [Act.put, List.setIfInBounds_toArray, List.set_cons_zero, List.set_cons_succ])
            refine wpGr_done ?_
            obtain ⟨W6, hW6⟩ : ∃ W, x1.drew = W := ⟨_, rfl⟩
            have hbW6 : Below w5.heap.size w5 W6 := by rw [← hW6]; exact HB1.out.drew
            have U1 := Lib.hid (U.out.ext hbW6)
            have q0 : ∀ w', Ext W6 w' → w'.cell? ⟨bu, 0, none⟩ = some (.pointer p3) := fun w' hx => (U1.out.t.ext hx).c0
            have q1 : ∀ w', Ext W6 w' → w'.cell? ⟨bu, 1, none⟩ = some (.int .i64 M) := fun w' hx => (U1.out.t.ext hx).c1
            have q2 : ∀ w', Ext W6 w' → w'.cell? ⟨g, o + k * 2, none⟩ = some (.string y0) := fun w' hx => (Hcell.out w' (hbW6.trans (hx.mono hbW6.size))).1.1
            have HW6 := Lib.hid hW6
            have HBW6 := Lib.hid hbW6
            clear hW6 hbW6 HB1
            go_wp2_with fail
            refine wp_region_gr [(0, true), (1, true), (2, true), (3, true), (4, true), (5, true), (6, false), (7, true), (8, true), (9, true), (10, true), (11, true)] (by kernel_rfl) (by kernel_rfl) (by kernel_rfl) (by kernel_rfl) (fun _ _ _ _ _ h => h) ?_
            rw [HW6.out]
            iterate 6 (refine wpGr_read (o := ⟨_, _, _, _, _, _⟩) (v := ?_) rfl (by rfl) ?_ ?_; rotate_left; (intro w' hw'; go_simp; with_reducible rfl); simp only [Act.put, List.setIfInBounds_toArray, List.set_cons_zero, List.set_cons_succ])
            clear q0 q1 q2
            refine wpGr_call (o := ⟨_, _, _, _, _, _⟩) rfl (by rfl) (fun K hK => ?_)
            go_simp
            refine (Hgu.out W6 HBW6.out).mono ?_
            rintro e x2 ⟨sg, rfl, hb1⟩
            refine hK _ _ hb1 ?_
            clear hK K Hgu HW6
            have HB1 := Lib.hid (HBW6.out.trans (hb1.mono HBW6.out.size))
            clear hb1
            iterate 5 (refine wpGr_read (o := ⟨_, _, _, _, _, _⟩) (v := ?_) rfl (by rfl) ?_ ?_; rotate_left; (intro w' hw'; go_simp; with_reducible rfl); simp only [Act.put, List.setIfInBounds_toArray, List.set_cons_zero, List.set_cons_succ])
            refine wpGr_done ?_
            obtain ⟨W7, hW7⟩ : ∃ W, x2.drew = W := ⟨_, rfl⟩
            have hbW7 : Below w5.heap.size w5 W7 := by rw [← hW7]; exact HB1.out.drew
            have q0 : ∀ w', Ext W7 w' → w'.cell? ⟨g, o + k * 2, none⟩ = some (.string y0) := fun w' hx => (Hcell.out w' (hbW7.trans (hx.mono hbW7.size))).1.1
            have q1 : ∀ w', Ext W7 w' → w'.cell? ⟨g, o + k * 2 + 1, none⟩ = some (.string y1) := fun w' hx => (Hcell.out w' (hbW7.trans (hx.mono hbW7.size))).1.2
            have q2 : ∀ w', Ext W7 w' → w'.cell? ⟨g2, o2 + Q * 2, none⟩ = some (.string y0) := fun w' hx => (Hcell.out w' (hbW7.trans (hx.mono hbW7.size))).2.1
            have q3 : ∀ w', Ext W7 w' → w'.cell? ⟨g2, o2 + Q * 2 + 1, none⟩ = some (.string y1) := fun w' hx => (Hcell.out w' (hbW7.trans (hx.mono hbW7.size))).2.2
            have HW7 := Lib.hid hW7
            have HBW7 := Lib.hid hbW7
            clear hW7 hbW7 HB1 Hcell
            go_wp2_with fail
            refine wp_region_gr [(0, true), (1, true), (2, true), (3, true), (4, true), (5, true), (6, true), (7, true), (8, true), (9, true), (10, true), (11, true), (12, true), (13, true), (14, true), (15, true), (16, true), (17, true), (18, true), (19, true), (20, true), (21, true), (22, true), (23, true), (24, true), (25, true), (26, true), (27, true)] (by kernel_rfl) (by kernel_rfl) (by kernel_rfl) (by kernel_rfl) (fun _ _ _ _ _ h => h) ?_
            rw [HW7.out]
            iterate 28 (first | (refine wpGr_read (o := ⟨_, _, _, _, _, _⟩) (v := ?_) rfl (by rfl) ?_ ?_; rotate_left; (intro w' hw'; go_simp; with_reducible rfl); simp only [Act.put, List.setIfInBounds_toArray, List.set_cons_zero, List.set_cons_succ]) | (refine wpGr_skip (o := ⟨_, _, _, _, _, _⟩) rfl (by rfl) ?_; simp only [Act.put, List.setIfInBounds_toArray, List.set_cons_zero, List.set_cons_succ]))
            refine wpGr_done ?_
            clear q0 q1 q2 q3
            go_wp2_with fail
            go_roundw
            case rel => exact ⟨k + 1, by go_num, by omega, HBW7⟩
            case measure => simp [intOf]; omega
          · obtain rfl : k = K2 := by omega
            replace X := Lib.hid (X.out.ext hB.out)
            replace SP := Lib.hid (SP.out.ext hB.out)
            replace U := Lib.hid (U.out.ext hB.out)
            replace A := Lib.hid (A.out.ext hB.out)
            clear hB E1 E2
            go_upto_if 161 with fail
            go_cut [22] from 25 (fun m wx => ∃ mk : ByteArray, m = .string mk ∧ wr = wx)
            case first =>
              have a2' := A.out.c2
              by_cases hN0 : 0 < N
              · obtain ⟨g, o, rfl, hc⟩ := X.out.l.ents (by rw [X.out.hn]; exact hN0)
                obtain ⟨Q, hQ⟩ : ∃ Q, nz % N = Q := ⟨_, rfl⟩
                have hQN : Q < N := by rw [← hQ]; exact Nat.mod_lt _ hN0
                have p0 := (hc Q (by rw [X.out.hn]; exact hQN)).1
                generalize (ea es Q).k = mk at *
                have e1 : (nz : Int).tmod (N : Int) = (Q : Int) := by rw [Int.tmod_eq_emod_of_nonneg (by omega), ← hQ]; rfl
                have w1' : IntKind.i64.wrap (nz : Int) = (nz : Int) := by rw [IntKind.wrap_i64]; omega
                have w2' : IntKind.i64.wrap (Q : Int) = (Q : Int) := by rw [IntKind.wrap_i64]; omega
                have n0' : ((N : Int) == 0) = false := by rw [beq_eq_false_iff_ne]; omega
                have n1' : ¬ (N : Int) = 0 := by omega
                have n2' : decide (0 < (N : Int)) = true := decide_eq_true (by omega)
                have n3' : decide (0 < N) = true := decide_eq_true hN0
                have i1 : (0 : Int) ≤ (Q : Int) := by omega
                have i2 : (Q : Int) < (N : Int) := by omega
                clear hc hQ
                try rw [n2']
                try rw [n3']
                go_wp2
                go_meet
                exact ⟨mk, rfl, rfl⟩
              · have n2' : decide (0 < (N : Int)) = false := decide_eq_false (by omega)
                have n3' : decide (0 < N) = false := decide_eq_false hN0
                try rw [n2']
                try rw [n3']
                go_wp2
                go_meet
                exact ⟨⟨#[]⟩, rfl, rfl⟩
            case rest =>
              obtain ⟨mk, rfl, rfl⟩ := hcut
              have s0 := SP.out.c0
              have s1 := SP.out.c1
              have s2 := SP.out.c2
              dsimp only at s0 s1 s2
              have hh := has_any ⟨lo2, hi2, op2⟩ mk wr
              cases hD : hasS ⟨lo2, hi2, op2⟩ mk with
              | false =>
                rw [hD] at hh
                unfold Sp.v at hh
                have Hh := Lib.hid hh
                clear hh hD
                go_wp2_with fail
                refine Hh.out.mono ?_
                rintro e w6 ⟨rfl, hb6⟩
                replace X := Lib.hid (X.out.ext hb6)
                have Hsu := Lib.hid (sure_any w6 (Hg0.out X.out.b))
                clear hb6 Hh s0 s1 s2
                go_wp2_with fail
                refine Hsu.out.mono ?_
                rintro e w7 ⟨rfl, hb7⟩
                have HB := Lib.hid (X.out.b.trans (hb7.mono X.out.b.size))
                clear hb7 Hsu
                go_wp2_with fail
                go_ret
                exact ⟨rfl, HB.out⟩
              | true =>
                rw [hD] at hh
                unfold Sp.v at hh
                have Hh := Lib.hid hh
                have hpl := part_len hD es
                dsimp only at hpl
                rw [HI.out, HK.out] at hpl
                obtain ⟨C1, hC1⟩ : ∃ C1, (inS ⟨lo2, mk, false⟩ es).length = C1 := ⟨_, rfl⟩
                obtain ⟨C2, hC2⟩ : ∃ C2, (inS ⟨mk, hi2, op2⟩ es).length = C2 := ⟨_, rfl⟩
                rw [hC1, hC2] at hpl
                have HC := Lib.hid (And.intro hC1 hC2)
                have Hpl := Lib.hid hpl
                clear hh hD hpl hC1 hC2
                go_wp2_with fail
                refine Hh.out.mono ?_
                rintro e w6 ⟨rfl, hb6⟩
                clear s0 s1 s2
                replace X := Lib.hid (X.out.ext hb6)
                replace SP := Lib.hid (SP.out.ext hb6)
                clear hb6 Hh U A
                go_upto_region 26 with fail
                go_cut [23, 24] from 25 (fun f b wx => ∃ bf bb : Nat, f = .pointer (some ⟨bf, 0, none⟩) ∧ b = .pointer (some ⟨bb, 0, none⟩) ∧ Hid (SpIn wx bf SPT ⟨lo2, mk, false⟩) ∧ Hid (SpIn wx bb SPT ⟨mk, hi2, op2⟩) ∧ Hid (Below w6.heap.size w6 wx))
                case first =>
                  obtain ⟨W, hW⟩ : ∃ W, w6.drew = W := ⟨_, rfl⟩
                  have hbd : Below w6.heap.size w6 W := by rw [← hW]; exact (Below.refl _ _).drew
                  replace SP := Lib.hid (SP.out.ext hbd)
                  have q4 : ∀ w', Turn (fun _ => False) W w' → w'.cell? ⟨bx, 0, none⟩ = some (.string lo2) := fun w' t => (SP.out.turn t (fun h => h)).c0
                  have q5 : ∀ w', Turn (fun _ => False) W w' → w'.cell? ⟨bx, 1, none⟩ = some (.string hi2) := fun w' t => (SP.out.turn t (fun h => h)).c1
                  have q6 : ∀ w', Turn (fun _ => False) W w' → w'.cell? ⟨bx, 2, none⟩ = some (.bool op2) := fun w' t => (SP.out.turn t (fun h => h)).c2
                  have HW := Lib.hid hW
                  have HBd := Lib.hid hbd
                  clear hW hbd X
                  refine wp_region_gx (fun _ => False) (.rd 0 (.rd 1 (.rd 2 (.rd 3 (.rd 4 (.rd 5 (.rd 6 (.rd 7 (.rd 8 (.rd 9 (.two 10 (.call 11 (.call 12 (.call 13 .done))) 11 (.call 10 (.call 12 (.call 13 .done)))))))))))))) (by kernel_rfl) (by kernel_rfl) (by kernel_rfl) (by kernel_rfl) (fun _ _ _ _ _ h => h) ?_
                  rw [HW.out]
                  iterate 10 (refine wpGx_read (o := ⟨_, _, _, _, _, _⟩) (v := ?_) rfl (by rfl) ?_ ?_; rotate_left; (intro w' hw'; go_simp; with_reducible rfl); simp only [Act.put, List.setIfInBounds_toArray, List.set_cons_zero, List.set_cons_succ])
                  clear q4 q5 q6 HW
                  refine ⟨?_, ?_⟩
                  · obtain ⟨bf, W1', hf, hw1, hs1, hb1⟩ := alloc_sp13 W
                    obtain ⟨bb, W2', hb, hw2, hs2, hb2⟩ := alloc_sp13 W1'
                    have Tf : Hid (SpIn W2' bf SPT Z0) := hs1.ext hb2
                    have Tb : Hid (SpIn W2' bb SPT Z0) := hs2
                    have hlt1 : W.heap.size ≤ bf := by omega
                    have hlt2 : bf < bb := by have := hs1.lt; omega
                    have HB12 := Lib.hid (HBd.out.trans ((hb1.trans (hb2.mono hb1.size)).mono HBd.out.size))
                    have hsz : w6.heap.size ≤ W.heap.size := HBd.out.size
                    have HG1 := Lib.hid (And.intro hf (And.intro hw1 hb1))
                    have HG2 := Lib.hid (And.intro hb (And.intro hw2 hb2))
                    have nb1 : ¬ bf < W.heap.size := by omega
                    have nb2 : ∀ j, j = bf ∨ j = bb → j < W1'.heap.size → j = bf := fun j h hj => by rcases h with h | h <;> omega
                    clear hf hw1 hs1 hb1 hb hw2 hs2 hb2
                    refine stepX_call (o := ⟨_, _, _, _, _, _⟩) rfl (by rfl) (fun K hK => ?_)
                    go_simp
                    rw [HG1.out.1, HG1.out.2.1]
                    refine hK (fun i => i = bf) (fun j h hj => absurd hj (by omega)) _ _ (Turn.ofBelow HG1.out.2.2) ?_
                    clear hK K HG1 nb1
                    refine stepX_call (o := ⟨_, _, _, _, _, _⟩) rfl (by rfl) (fun K hK => ?_)
                    go_simp
                    rw [HG2.out.1, HG2.out.2.1]
                    refine hK (fun i => i = bf ∨ i = bb) nb2 _ _ (Turn.ofBelow HG2.out.2.2) ?_
                    clear hK K HG2 nb2
                    have r0 := Tf.out.c0
                    have r1 := Tf.out.c1
                    have r2 := Tf.out.c2
                    have e0 := Tf.out.fz 0
                    have e1 := Tf.out.fz 1
                    have e2 := Tf.out.fz 2
                    simp only [Z0] at r0 r1 r2
                    refine stepX_call (o := ⟨_, _, _, _, _, _⟩) rfl (by rfl) (fun K hK => ?_)
                    go_simp
                    refine hK (fun i => i = bf ∨ i = bb) (fun _ h _ => h) _ _ ((turn3 _ _ _ _ _).mono (fun i h _ => .inl h)) ?_
                    clear hK K r0 r1 r2 e0 e1 e2
                    obtain ⟨W3', hW3⟩ : ∃ Z, (((W2'.setCell ⟨bf, 0, none⟩ (.string lo2)).setCell ⟨bf, 1, none⟩ (.string mk)).setCell ⟨bf, 2, none⟩ (.bool false)) = Z := ⟨_, rfl⟩
                    have tn0 := turn3 W2' bf (.string lo2) (.string mk) (.bool false)
                    have sn0 := Tf.out.put3 ⟨lo2, mk, false⟩
                    have bn0 : Below w6.heap.size w6 (((W2'.setCell ⟨bf, 0, none⟩ (.string lo2)).setCell ⟨bf, 1, none⟩ (.string mk)).setCell ⟨bf, 2, none⟩ (.bool false)) := ((HB12.out.setCell (by dsimp only; omega) _).setCell (by dsimp only; omega) _).setCell (by dsimp only; omega) _
                    rw [hW3] at tn0 sn0 bn0 ⊢
                    replace Tf := Lib.hid sn0
                    replace Tb := Lib.hid (Tb.out.turn tn0 (by omega))
                    replace HB12 := Lib.hid bn0
                    clear hW3 tn0 sn0 bn0
                    have r0 := Tb.out.c0
                    have r1 := Tb.out.c1
                    have r2 := Tb.out.c2
                    have e0 := Tb.out.fz 0
                    have e1 := Tb.out.fz 1
                    have e2 := Tb.out.fz 2
                    simp only [Z0] at r0 r1 r2
                    refine stepX_call (o := ⟨_, _, _, _, _, _⟩) rfl (by rfl) (fun K hK => ?_)
                    go_simp
                    refine hK (fun i => i = bf ∨ i = bb) (fun _ h _ => h) _ _ ((turn3 _ _ _ _ _).mono (fun i h _ => .inr h)) ?_
                    clear hK K r0 r1 r2 e0 e1 e2
                    obtain ⟨W4', hW4⟩ : ∃ Z, (((W3'.setCell ⟨bb, 0, none⟩ (.string mk)).setCell ⟨bb, 1, none⟩ (.string hi2)).setCell ⟨bb, 2, none⟩ (.bool op2)) = Z := ⟨_, rfl⟩
                    have tn1 := turn3 W3' bb (.string mk) (.string hi2) (.bool op2)
                    have sn1 := Tb.out.put3 ⟨mk, hi2, op2⟩
                    have bn1 : Below w6.heap.size w6 (((W3'.setCell ⟨bb, 0, none⟩ (.string mk)).setCell ⟨bb, 1, none⟩ (.string hi2)).setCell ⟨bb, 2, none⟩ (.bool op2)) := ((HB12.out.setCell (by dsimp only; omega) _).setCell (by dsimp only; omega) _).setCell (by dsimp only; omega) _
                    rw [hW4] at tn1 sn1 bn1 ⊢
                    replace Tb := Lib.hid sn1
                    replace Tf := Lib.hid (Tf.out.turn tn1 (by omega))
                    replace HB12 := Lib.hid bn1
                    clear hW4 tn1 sn1 bn1
                    refine wpGx_done ?_
                    go_wp2
                    go_meet
                    exact ⟨bf, bb, rfl, rfl, Tf, Tb, HB12⟩
                  · obtain ⟨bb, W1', hb, hw1, hs1, hb1⟩ := alloc_sp13 W
                    obtain ⟨bf, W2', hf, hw2, hs2, hb2⟩ := alloc_sp13 W1'
                    have Tb : Hid (SpIn W2' bb SPT Z0) := hs1.ext hb2
                    have Tf : Hid (SpIn W2' bf SPT Z0) := hs2
                    have hlt1 : W.heap.size ≤ bb := by omega
                    have hlt2 : bb < bf := by have := hs1.lt; omega
                    have HB12 := Lib.hid (HBd.out.trans ((hb1.trans (hb2.mono hb1.size)).mono HBd.out.size))
                    have hsz : w6.heap.size ≤ W.heap.size := HBd.out.size
                    have HG1 := Lib.hid (And.intro hb (And.intro hw1 hb1))
                    have HG2 := Lib.hid (And.intro hf (And.intro hw2 hb2))
                    have nb1 : ¬ bb < W.heap.size := by omega
                    have nb2 : ∀ j, j = bb ∨ j = bf → j < W1'.heap.size → j = bb := fun j h hj => by rcases h with h | h <;> omega
                    clear hb hw1 hs1 hb1 hf hw2 hs2 hb2
                    refine stepX_call (o := ⟨_, _, _, _, _, _⟩) rfl (by rfl) (fun K hK => ?_)
                    go_simp
                    rw [HG1.out.1, HG1.out.2.1]
                    refine hK (fun i => i = bb) (fun j h hj => absurd hj (by omega)) _ _ (Turn.ofBelow HG1.out.2.2) ?_
                    clear hK K HG1 nb1
                    refine stepX_call (o := ⟨_, _, _, _, _, _⟩) rfl (by rfl) (fun K hK => ?_)
                    go_simp
                    rw [HG2.out.1, HG2.out.2.1]
                    refine hK (fun i => i = bb ∨ i = bf) nb2 _ _ (Turn.ofBelow HG2.out.2.2) ?_
                    clear hK K HG2 nb2
                    have r0 := Tf.out.c0
                    have r1 := Tf.out.c1
                    have r2 := Tf.out.c2
                    have e0 := Tf.out.fz 0
                    have e1 := Tf.out.fz 1
                    have e2 := Tf.out.fz 2
                    simp only [Z0] at r0 r1 r2
                    refine stepX_call (o := ⟨_, _, _, _, _, _⟩) rfl (by rfl) (fun K hK => ?_)
                    go_simp
                    refine hK (fun i => i = bb ∨ i = bf) (fun _ h _ => h) _ _ ((turn3 _ _ _ _ _).mono (fun i h _ => .inr h)) ?_
                    clear hK K r0 r1 r2 e0 e1 e2
                    obtain ⟨W3', hW3⟩ : ∃ Z, (((W2'.setCell ⟨bf, 0, none⟩ (.string lo2)).setCell ⟨bf, 1, none⟩ (.string mk)).setCell ⟨bf, 2, none⟩ (.bool false)) = Z := ⟨_, rfl⟩
                    have tn0 := turn3 W2' bf (.string lo2) (.string mk) (.bool false)
                    have sn0 := Tf.out.put3 ⟨lo2, mk, false⟩
                    have bn0 : Below w6.heap.size w6 (((W2'.setCell ⟨bf, 0, none⟩ (.string lo2)).setCell ⟨bf, 1, none⟩ (.string mk)).setCell ⟨bf, 2, none⟩ (.bool false)) := ((HB12.out.setCell (by dsimp only; omega) _).setCell (by dsimp only; omega) _).setCell (by dsimp only; omega) _
                    rw [hW3] at tn0 sn0 bn0 ⊢
                    replace Tf := Lib.hid sn0
                    replace Tb := Lib.hid (Tb.out.turn tn0 (by omega))
                    replace HB12 := Lib.hid bn0
                    clear hW3 tn0 sn0 bn0
                    have r0 := Tb.out.c0
                    have r1 := Tb.out.c1
                    have r2 := Tb.out.c2
                    have e0 := Tb.out.fz 0
                    have e1 := Tb.out.fz 1
                    have e2 := Tb.out.fz 2
                    simp only [Z0] at r0 r1 r2
                    refine stepX_call (o := ⟨_, _, _, _, _, _⟩) rfl (by rfl) (fun K hK => ?_)
                    go_simp
                    refine hK (fun i => i = bb ∨ i = bf) (fun _ h _ => h) _ _ ((turn3 _ _ _ _ _).mono (fun i h _ => .inl h)) ?_
                    clear hK K r0 r1 r2 e0 e1 e2
                    obtain ⟨W4', hW4⟩ : ∃ Z, (((W3'.setCell ⟨bb, 0, none⟩ (.string mk)).setCell ⟨bb, 1, none⟩ (.string hi2)).setCell ⟨bb, 2, none⟩ (.bool op2)) = Z := ⟨_, rfl⟩
                    have tn1 := turn3 W3' bb (.string mk) (.string hi2) (.bool op2)
                    have sn1 := Tb.out.put3 ⟨mk, hi2, op2⟩
                    have bn1 : Below w6.heap.size w6 (((W3'.setCell ⟨bb, 0, none⟩ (.string mk)).setCell ⟨bb, 1, none⟩ (.string hi2)).setCell ⟨bb, 2, none⟩ (.bool op2)) := ((HB12.out.setCell (by dsimp only; omega) _).setCell (by dsimp only; omega) _).setCell (by dsimp only; omega) _
                    rw [hW4] at tn1 sn1 bn1 ⊢
                    replace Tb := Lib.hid sn1
                    replace Tf := Lib.hid (Tf.out.turn tn1 (by omega))
                    replace HB12 := Lib.hid bn1
                    clear hW4 tn1 sn1 bn1
                    refine wpGx_done ?_
                    go_wp2
                    go_meet
                    exact ⟨bf, bb, rfl, rfl, Tf, Tb, HB12⟩
                case rest =>
                  obtain ⟨bf, bb, rfl, rfl, HF, HG, hbc⟩ := hcut
                  replace X := Lib.hid (X.out.ext hbc.out)
                  clear hbc SP
                  obtain ⟨W, hW⟩ : ∃ W, wc.drew = W := ⟨_, rfl⟩
                  have hbd : Below wc.heap.size wc W := by rw [← hW]; exact (Below.refl _ _).drew
                  replace X := Lib.hid (X.out.ext hbd)
                  have q0 : ∀ w', Ext W w' → w'.cell? ⟨bt, 0, none⟩ = some (.pointer p) := fun w' hx => (X.out.t.ext hx).c0
                  have q1 : ∀ w', Ext W w' → w'.cell? ⟨bt, 1, none⟩ = some (.int .i64 N) := fun w' hx => (X.out.t.ext hx).c1
                  have f0 : ∀ w', Ext W w' → w'.cell? ⟨bf, 0, none⟩ = some (.string lo2) := fun w' hx => ((HF.out.ext hbd).ext hx).c0
                  have f1 : ∀ w', Ext W w' → w'.cell? ⟨bf, 1, none⟩ = some (.string mk) := fun w' hx => ((HF.out.ext hbd).ext hx).c1
                  have f2 : ∀ w', Ext W w' → w'.cell? ⟨bf, 2, none⟩ = some (.bool false) := fun w' hx => ((HF.out.ext hbd).ext hx).c2
                  have g0 : ∀ w', Ext W w' → w'.cell? ⟨bb, 0, none⟩ = some (.string mk) := fun w' hx => ((HG.out.ext hbd).ext hx).c0
                  have g1' : ∀ w', Ext W w' → w'.cell? ⟨bb, 1, none⟩ = some (.string hi2) := fun w' hx => ((HG.out.ext hbd).ext hx).c1
                  have g2' : ∀ w', Ext W w' → w'.cell? ⟨bb, 2, none⟩ = some (.bool op2) := fun w' hx => ((HG.out.ext hbd).ext hx).c2
                  have Q1 := count_any p N es H ⟨lo2, mk, false⟩ W X.out.tr (by have := X.out.hn; omega)
                  rw [HC.out.1] at Q1
                  unfold Sp.v at Q1
                  have Q1 := Lib.hid Q1
                  have Q2 : Hid (∀ x, Below W.heap.size W x → Calls Tryd.prog 18 #[.agg #[.pointer p, .int .i64 N], .agg #[.string mk, .string hi2, .bool op2]] x fun e w' => e = .returned (.int .i64 C2) ∧ Below x.heap.size x w') := fun x hx => by
                    have h := count_any p N es H ⟨mk, hi2, op2⟩ x (X.out.tr.ext hx) (by have h6 := X.out.hn; omega)
                    rw [HC.out.2] at h
                    exact h
                  have z1 : (C1 : Int) + (C2 : Int) = (k : Int) := by have := Hpl.out; omega
                  have z2 : IntKind.i64.wrap ((C1 : Int) + (C2 : Int)) = (k : Int) := by rw [IntKind.wrap_i64]; omega
                  have z3 : IntKind.i64.wrap (k : Int) = (k : Int) := by rw [IntKind.wrap_i64]; omega
                  have HW := Lib.hid hW
                  clear hW hbd HF HG
                  go_wp2_with fail
                  refine wp_region_gr [(0, true), (1, true), (3, true), (4, true), (7, true), (2, false), (5, false), (6, true), (8, true), (9, true), (10, false), (11, true), (12, true)] (by kernel_rfl) (by kernel_rfl) (by kernel_rfl) (by kernel_rfl) (fun _ _ _ _ _ h => h) ?_
                  rw [HW.out]
                  iterate 5 (refine wpGr_read (o := ⟨_, _, _, _, _, _⟩) (v := ?_) rfl (by rfl) ?_ ?_; rotate_left; (intro w' hw'; go_simp; with_reducible rfl); simp only [Act.put, List.setIfInBounds_toArray, List.set_cons_zero, List.set_cons_succ])
                  clear q0 q1 f0 f1 f2 g0 g1' g2'
                  refine wpGr_call (o := ⟨_, _, _, _, _, _⟩) rfl (by rfl) (fun K hK => ?_)
                  go_simp
                  refine Q1.out.mono ?_
                  rintro e x1 ⟨rfl, hb1⟩
                  refine hK _ _ hb1 ?_
                  clear hK K Q1
                  have B1 := Lib.hid hb1
                  clear hb1
                  refine wpGr_call (o := ⟨_, _, _, _, _, _⟩) rfl (by rfl) (fun K hK => ?_)
                  go_simp
                  refine (Q2.out x1 B1.out).mono ?_
                  rintro e x2 ⟨rfl, hb2⟩
                  refine hK _ _ hb2 ?_
                  clear hK K Q2
                  have B2 := Lib.hid (X.out.b.trans ((B1.out.trans (hb2.mono B1.out.size)).mono X.out.b.size))
                  have Hsu := Lib.hid (sure_any x2 (Hg0.out B2.out))
                  clear hb2
                  iterate 3 (first | (refine wpGr_read (o := ⟨_, _, _, _, _, _⟩) (v := ?_) rfl (by rfl) ?_ ?_; rotate_left; (intro w' hw'; go_simp; with_reducible rfl); simp only [Act.put, List.setIfInBounds_toArray, List.set_cons_zero, List.set_cons_succ]) | (refine wpGr_skip (o := ⟨_, _, _, _, _, _⟩) rfl (by rfl) ?_; simp only [Act.put, List.setIfInBounds_toArray, List.set_cons_zero, List.set_cons_succ]))
                  refine wpGr_call (o := ⟨_, _, _, _, _, _⟩) rfl (by rfl) (fun K hK => ?_)
                  go_simp
                  refine Hsu.out.mono ?_
                  rintro e x3 ⟨rfl, hb3⟩
                  refine hK _ _ hb3 ?_
                  clear hK K Hsu
                  have HB := Lib.hid (B2.out.trans (hb3.mono B2.out.size))
                  clear hb3
                  iterate 2 (first | (refine wpGr_read (o := ⟨_, _, _, _, _, _⟩) (v := ?_) rfl (by rfl) ?_ ?_; rotate_left; (intro w' hw'; go_simp; with_reducible rfl); simp only [Act.put, List.setIfInBounds_toArray, List.set_cons_zero, List.set_cons_succ]) | (refine wpGr_skip (o := ⟨_, _, _, _, _, _⟩) rfl (by rfl) ?_; simp only [Act.put, List.setIfInBounds_toArray, List.set_cons_zero, List.set_cons_succ]))
                  refine wpGr_done ?_
                  go_wp2_with fail
                  go_ret
                  exact ⟨rfl, HB.out⟩
end Go.Proofs.YtimdlgjgoggaiaaDoor
