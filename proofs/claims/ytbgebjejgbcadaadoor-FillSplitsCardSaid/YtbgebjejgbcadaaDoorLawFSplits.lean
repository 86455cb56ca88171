/-
  FillSplits: the law's walk.
-/
import Derived.Test.YtbgebjejgbcadaaDoorSure11
import Derived.Test.YtbgebjejgbcadaaDoorRefFill
namespace Go.Proofs.YtbgebjejgbcadaaDoor
open Go Go.RowKit

set_option maxRecDepth 100000 in
set_option maxHeartbeats 1000000 in
theorem splits_any (a : Option Addr) (n c : Nat) (l : List Int) (b x : Int) (w : World) (hn : l.length = n) (hs : PgS w a l) (hnc : n ≤ c) (hc : c ≤ maxLen) (hg : Hg w) :
    Calls Tryd.prog 3 #[.slice a n c, .int .i64 b, .int .i64 x] w fun e w' => e = .returned (.bool true) ∧ Below w.heap.size w w' := by
  have HG := Lib.hid hg
  have hm : n ≤ 9223372036854775807 := by unfold maxLen at hc; omega
  have hsp := Lib.hid (split_any a n c l b w hn hs hnc hc)
  have hrs := Lib.hid (refSplit_any a n c l b w hn hs hm)
  have hmo := Lib.hid (most_any x w)
  have Sure := Lib.hid sure_any
  have Num := Lib.hid (fun W e f (h : NumIs e f) (hb : Below w.heap.size w W) => num_any e f W h (HG.out.below hb))
  have hE := Lib.hid (errC_is (spE l b))
  generalize errC (spE l b) = EV at *
  generalize spN l b = N at *
  generalize spE l b = E at *
  have hM := Lib.hid (errC_is (moE x))
  have hen := Lib.hid (enough_any x)
  have hfi := Lib.hid (fits_any x)
  clear hs hn hg hnc hc
  by_cases h1 : 200 < n ∧ n ≤ 1024
  · have d1 : decide (200 < (n : Int)) = true := decide_eq_true (by omega)
    have d1' : decide (200 < n) = true := decide_eq_true (by omega)
    have d2 : decide ((n : Int) ≤ 1024) = true := decide_eq_true (by omega)
    have d2' : decide (n ≤ 1024) = true := decide_eq_true (by omega)
    clear hsp hrs hmo Num hE hM hen hfi h1
    go_enter Tryd.func3, Tryd.ntmps3
    go_wp2_with fail
    refine (Sure.out w HG.out).mono ?_
    rintro e w1 ⟨rfl, hb1⟩
    have Hb1 := Lib.hid hb1
    clear hb1
    go_wp2
    go_ret
    exact ⟨rfl, Hb1.out⟩
  by_cases h2 : 1100 < n
  · have d1 : decide (200 < (n : Int)) = true := decide_eq_true (by omega)
    have d1' : decide (200 < n) = true := decide_eq_true (by omega)
    have d2 : decide ((n : Int) ≤ 1024) = false := decide_eq_false (by omega)
    have d2' : decide (n ≤ 1024) = false := decide_eq_false (by omega)
    have d3 : decide (1100 < (n : Int)) = true := decide_eq_true (by omega)
    have d3' : decide (1100 < n) = true := decide_eq_true (by omega)
    clear hsp hrs hmo Num hE hM hen hfi h1
    go_enter Tryd.func3, Tryd.ntmps3
    go_wp2_with fail
    refine (Sure.out w HG.out).mono ?_
    rintro e w1 ⟨rfl, hb1⟩
    have Hb1 := Lib.hid hb1
    clear hb1
    go_wp2
    go_ret
    exact ⟨rfl, Hb1.out⟩
  have d3 : decide (1100 < (n : Int)) = false := decide_eq_false (by omega)
  have d3' : decide (1100 < n) = false := decide_eq_false (by omega)
  obtain ⟨D1, hD1⟩ : ∃ D1, decide (200 < (n : Int)) = D1 := ⟨_, rfl⟩
  obtain ⟨D2, hD2⟩ : ∃ D2, decide ((n : Int) ≤ 1024) = D2 := ⟨_, rfl⟩
  have hD1' : decide (200 < n) = D1 := by rw [← hD1, Bool.eq_iff_iff]; simp; omega
  have hD2' : decide (n ≤ 1024) = D2 := by rw [← hD2, Bool.eq_iff_iff]; simp; omega
  have h12 : D1 = true → D2 = true → False := fun e1 e2 => by rw [← hD1] at e1; rw [← hD2] at e2; exact h1 (by have q1 := of_decide_eq_true e1; have q2 := of_decide_eq_true e2; omega)
  obtain ⟨Z, hZ⟩ : ∃ Z, Z = moN x := ⟨_, rfl⟩
  obtain ⟨F, hF⟩ : ∃ F, F = moE x := ⟨_, rfl⟩
  rw [← hZ, ← hF] at hmo
  rw [← hF] at hM
  obtain ⟨Y, hY⟩ : ∃ Y, Y = x / 126 := ⟨_, rfl⟩
  clear h1 h2
  by_cases g0 : x < 0
  · have c0 : decide (x < 0) = true := decide_eq_true (by omega)
    have c1 : decide (1073741824 < x) = false := decide_eq_false (by omega)
    have c2 : decide (0 ≤ x) = false := decide_eq_false (by omega)
    have c3 : decide (x < 505) = true := decide_eq_true (by omega)
    have c4 : decide (x ≤ 504) = true := decide_eq_true (by omega)
    obtain ⟨D, hD⟩ : ∃ D, decide (125 < x) = D := ⟨_, rfl⟩
    have dE : decide (126 ≤ x) = D := by rw [← hD, Bool.eq_iff_iff]; simp; omega
    have dF : fiB x = false := by unfold fiB; simp; omega
    have zz : Z = 0 ∧ F = 1 := by rw [hZ, hF]; unfold moN moE; exact ⟨if_pos (by omega), if_pos (by omega)⟩
    obtain ⟨rfl, rfl⟩ := zz
    rw [errC_1] at hmo hM
    clear hZ hF hY
    cases D1 with
    | false =>
      clear h12
      go_enter Tryd.func3, Tryd.ntmps3
      go_wp2_with fail
      refine hsp.out.mono ?_
      rintro e w' ⟨rfl, rfl⟩
      go_wp2_with fail
      refine hrs.out.mono ?_
      rintro e w' ⟨rfl, rfl⟩
      go_wp2_with fail
      refine hmo.out.mono ?_
      rintro e w' ⟨rfl, rfl⟩
      go_wp2_with fail
      refine (Num.out w _ 1 hM.out (Below.refl _ _)).mono ?_
      rintro e w1 ⟨rfl, hb1⟩
      have Hb1 := Lib.hid hb1
      clear hb1
      go_wp2_with fail
      refine (Num.out w1 EV E hE.out Hb1.out).mono ?_
      rintro e w2 ⟨rfl, hb2⟩
      have Hb2 := Lib.hid (Hb1.out.trans (hb2.mono Hb1.out.size))
      clear hb2
      go_wp2_with fail
      refine (hen.out w2).mono ?_
      rintro e w' ⟨rfl, rfl⟩
      rw [dE]
      go_wp2_with fail
      refine (hfi.out w2).mono ?_
      rintro e w' ⟨rfl, rfl⟩
      rw [dF]
      go_wp2_with fail
      refine (Sure.out w2 (HG.out.below Hb2.out)).mono ?_
      rintro e w3 ⟨rfl, hb3⟩
      have Hb3 := Lib.hid (Hb2.out.trans (hb3.mono Hb2.out.size))
      clear hb3
      go_wp2
      go_ret
      exact ⟨rfl, Hb3.out⟩
    | true =>
      cases D2 with
      | true => exact absurd (h12 rfl rfl) id
      | false =>
        clear h12
        go_enter Tryd.func3, Tryd.ntmps3
        go_wp2_with fail
        refine hsp.out.mono ?_
        rintro e w' ⟨rfl, rfl⟩
        go_wp2_with fail
        refine hrs.out.mono ?_
        rintro e w' ⟨rfl, rfl⟩
        go_wp2_with fail
        refine hmo.out.mono ?_
        rintro e w' ⟨rfl, rfl⟩
        go_wp2_with fail
        refine (Num.out w _ 1 hM.out (Below.refl _ _)).mono ?_
        rintro e w1 ⟨rfl, hb1⟩
        have Hb1 := Lib.hid hb1
        clear hb1
        go_wp2_with fail
        refine (Num.out w1 EV E hE.out Hb1.out).mono ?_
        rintro e w2 ⟨rfl, hb2⟩
        have Hb2 := Lib.hid (Hb1.out.trans (hb2.mono Hb1.out.size))
        clear hb2
        go_wp2_with fail
        refine (hen.out w2).mono ?_
        rintro e w' ⟨rfl, rfl⟩
        rw [dE]
        go_wp2_with fail
        refine (hfi.out w2).mono ?_
        rintro e w' ⟨rfl, rfl⟩
        rw [dF]
        go_wp2_with fail
        refine (Sure.out w2 (HG.out.below Hb2.out)).mono ?_
        rintro e w3 ⟨rfl, hb3⟩
        have Hb3 := Lib.hid (Hb2.out.trans (hb3.mono Hb2.out.size))
        clear hb3
        go_wp2
        go_ret
        exact ⟨rfl, Hb3.out⟩
  by_cases g1 : 1073741824 < x
  · have c0 : decide (x < 0) = false := decide_eq_false (by omega)
    have c1 : decide (1073741824 < x) = true := decide_eq_true (by omega)
    have c2 : decide (0 ≤ x) = true := decide_eq_true (by omega)
    have c3 : decide (x < 505) = false := decide_eq_false (by omega)
    have c4 : decide (x ≤ 504) = false := decide_eq_false (by omega)
    obtain ⟨D, hD⟩ : ∃ D, decide (125 < x) = D := ⟨_, rfl⟩
    have dE : decide (126 ≤ x) = D := by rw [← hD, Bool.eq_iff_iff]; simp; omega
    have dF : fiB x = false := by unfold fiB; simp; omega
    have zz : Z = 0 ∧ F = 1 := by rw [hZ, hF]; unfold moN moE; exact ⟨if_pos (by omega), if_pos (by omega)⟩
    obtain ⟨rfl, rfl⟩ := zz
    rw [errC_1] at hmo hM
    clear hZ hF hY
    cases D1 with
    | false =>
      clear h12
      go_enter Tryd.func3, Tryd.ntmps3
      go_wp2_with fail
      refine hsp.out.mono ?_
      rintro e w' ⟨rfl, rfl⟩
      go_wp2_with fail
      refine hrs.out.mono ?_
      rintro e w' ⟨rfl, rfl⟩
      go_wp2_with fail
      refine hmo.out.mono ?_
      rintro e w' ⟨rfl, rfl⟩
      go_wp2_with fail
      refine (Num.out w _ 1 hM.out (Below.refl _ _)).mono ?_
      rintro e w1 ⟨rfl, hb1⟩
      have Hb1 := Lib.hid hb1
      clear hb1
      go_wp2_with fail
      refine (Num.out w1 EV E hE.out Hb1.out).mono ?_
      rintro e w2 ⟨rfl, hb2⟩
      have Hb2 := Lib.hid (Hb1.out.trans (hb2.mono Hb1.out.size))
      clear hb2
      go_wp2_with fail
      refine (hen.out w2).mono ?_
      rintro e w' ⟨rfl, rfl⟩
      rw [dE]
      go_wp2_with fail
      refine (hfi.out w2).mono ?_
      rintro e w' ⟨rfl, rfl⟩
      rw [dF]
      go_wp2_with fail
      refine (Sure.out w2 (HG.out.below Hb2.out)).mono ?_
      rintro e w3 ⟨rfl, hb3⟩
      have Hb3 := Lib.hid (Hb2.out.trans (hb3.mono Hb2.out.size))
      clear hb3
      go_wp2
      go_ret
      exact ⟨rfl, Hb3.out⟩
    | true =>
      cases D2 with
      | true => exact absurd (h12 rfl rfl) id
      | false =>
        clear h12
        go_enter Tryd.func3, Tryd.ntmps3
        go_wp2_with fail
        refine hsp.out.mono ?_
        rintro e w' ⟨rfl, rfl⟩
        go_wp2_with fail
        refine hrs.out.mono ?_
        rintro e w' ⟨rfl, rfl⟩
        go_wp2_with fail
        refine hmo.out.mono ?_
        rintro e w' ⟨rfl, rfl⟩
        go_wp2_with fail
        refine (Num.out w _ 1 hM.out (Below.refl _ _)).mono ?_
        rintro e w1 ⟨rfl, hb1⟩
        have Hb1 := Lib.hid hb1
        clear hb1
        go_wp2_with fail
        refine (Num.out w1 EV E hE.out Hb1.out).mono ?_
        rintro e w2 ⟨rfl, hb2⟩
        have Hb2 := Lib.hid (Hb1.out.trans (hb2.mono Hb1.out.size))
        clear hb2
        go_wp2_with fail
        refine (hen.out w2).mono ?_
        rintro e w' ⟨rfl, rfl⟩
        rw [dE]
        go_wp2_with fail
        refine (hfi.out w2).mono ?_
        rintro e w' ⟨rfl, rfl⟩
        rw [dF]
        go_wp2_with fail
        refine (Sure.out w2 (HG.out.below Hb2.out)).mono ?_
        rintro e w3 ⟨rfl, hb3⟩
        have Hb3 := Lib.hid (Hb2.out.trans (hb3.mono Hb2.out.size))
        clear hb3
        go_wp2
        go_ret
        exact ⟨rfl, Hb3.out⟩
  by_cases g2 : 504 < x
  · have c0 : decide (x < 0) = false := decide_eq_false (by omega)
    have c1 : decide (1073741824 < x) = false := decide_eq_false (by omega)
    have c2 : decide (0 ≤ x) = true := decide_eq_true (by omega)
    have c3 : decide (x < 505) = false := decide_eq_false (by omega)
    have c4 : decide (x ≤ 504) = false := decide_eq_false (by omega)
    obtain ⟨D, hD⟩ : ∃ D, decide (125 < x) = D := ⟨_, rfl⟩
    have dE : decide (126 ≤ x) = D := by rw [← hD, Bool.eq_iff_iff]; simp; omega
    have dF : fiB x = false := by unfold fiB; simp; omega
    have zz : Z = Y + 1 ∧ F = 0 := by rw [hZ, hF, hY]; unfold moN moE; exact ⟨if_neg (by omega), if_neg (by omega)⟩
    have q1 : x.tdiv 126 = Y := by rw [Int.tdiv_eq_ediv_of_nonneg (by omega)]; omega
    have q1' : x / 126 = Y := hY.symm
    have q2 : IntKind.i64.wrap Y = Y := by rw [IntKind.wrap_i64]; omega
    have q3 : IntKind.i64.wrap (1 + Y) = Z := by rw [IntKind.wrap_i64]; omega
    obtain ⟨z1, z2⟩ := zz
    rw [z2, errC_0] at hmo
    clear z1
    clear hZ hF hY
    cases D1 with
    | false =>
      clear h12
      go_enter Tryd.func3, Tryd.ntmps3
      go_wp2_with fail
      refine hsp.out.mono ?_
      rintro e w' ⟨rfl, rfl⟩
      go_wp2_with fail
      refine hrs.out.mono ?_
      rintro e w' ⟨rfl, rfl⟩
      go_wp2_with fail
      refine hmo.out.mono ?_
      rintro e w' ⟨rfl, rfl⟩
      go_wp2_with fail
      refine (Num.out w EV E hE.out (Below.refl _ _)).mono ?_
      rintro e w2 ⟨rfl, hb2⟩
      have Hb2 := Lib.hid (hb2)
      clear hb2
      go_wp2_with fail
      refine (hen.out w2).mono ?_
      rintro e w' ⟨rfl, rfl⟩
      rw [dE]
      go_wp2_with fail
      refine (hfi.out w2).mono ?_
      rintro e w' ⟨rfl, rfl⟩
      rw [dF]
      go_wp2_with fail
      refine (Sure.out w2 (HG.out.below Hb2.out)).mono ?_
      rintro e w3 ⟨rfl, hb3⟩
      have Hb3 := Lib.hid (Hb2.out.trans (hb3.mono Hb2.out.size))
      clear hb3
      go_wp2
      go_ret
      exact ⟨rfl, Hb3.out⟩
    | true =>
      cases D2 with
      | true => exact absurd (h12 rfl rfl) id
      | false =>
        clear h12
        go_enter Tryd.func3, Tryd.ntmps3
        go_wp2_with fail
        refine hsp.out.mono ?_
        rintro e w' ⟨rfl, rfl⟩
        go_wp2_with fail
        refine hrs.out.mono ?_
        rintro e w' ⟨rfl, rfl⟩
        go_wp2_with fail
        refine hmo.out.mono ?_
        rintro e w' ⟨rfl, rfl⟩
        go_wp2_with fail
        refine (Num.out w EV E hE.out (Below.refl _ _)).mono ?_
        rintro e w2 ⟨rfl, hb2⟩
        have Hb2 := Lib.hid (hb2)
        clear hb2
        go_wp2_with fail
        refine (hen.out w2).mono ?_
        rintro e w' ⟨rfl, rfl⟩
        rw [dE]
        go_wp2_with fail
        refine (hfi.out w2).mono ?_
        rintro e w' ⟨rfl, rfl⟩
        rw [dF]
        go_wp2_with fail
        refine (Sure.out w2 (HG.out.below Hb2.out)).mono ?_
        rintro e w3 ⟨rfl, hb3⟩
        have Hb3 := Lib.hid (Hb2.out.trans (hb3.mono Hb2.out.size))
        clear hb3
        go_wp2
        go_ret
        exact ⟨rfl, Hb3.out⟩
  have c0 : decide (x < 0) = false := decide_eq_false (by omega)
  have c1 : decide (1073741824 < x) = false := decide_eq_false (by omega)
  have c2 : decide (0 ≤ x) = true := decide_eq_true (by omega)
  have c3 : decide (x < 505) = true := decide_eq_true (by omega)
  have c4 : decide (x ≤ 504) = true := decide_eq_true (by omega)
  obtain ⟨D, hD⟩ : ∃ D, decide (125 < x) = D := ⟨_, rfl⟩
  have dE : decide (126 ≤ x) = D := by rw [← hD, Bool.eq_iff_iff]; simp; omega
  have dF : fiB x = true := by unfold fiB; simp; omega
  have zz : Z = Y + 1 ∧ F = 0 := by rw [hZ, hF, hY]; unfold moN moE; exact ⟨if_neg (by omega), if_neg (by omega)⟩
  have q1 : x.tdiv 126 = Y := by rw [Int.tdiv_eq_ediv_of_nonneg (by omega)]; omega
  have q1' : x / 126 = Y := hY.symm
  have q2 : IntKind.i64.wrap Y = Y := by rw [IntKind.wrap_i64]; omega
  have q3 : IntKind.i64.wrap (1 + Y) = Z := by rw [IntKind.wrap_i64]; omega
  obtain ⟨z1, z2⟩ := zz
  rw [z2, errC_0] at hmo
  clear z1
  clear hZ hF hY
  cases D1 with
  | false =>
    clear h12
    go_enter Tryd.func3, Tryd.ntmps3
    go_wp2_with fail
    refine hsp.out.mono ?_
    rintro e w' ⟨rfl, rfl⟩
    go_wp2_with fail
    refine hrs.out.mono ?_
    rintro e w' ⟨rfl, rfl⟩
    go_wp2_with fail
    refine hmo.out.mono ?_
    rintro e w' ⟨rfl, rfl⟩
    go_wp2_with fail
    refine (Num.out w EV E hE.out (Below.refl _ _)).mono ?_
    rintro e w2 ⟨rfl, hb2⟩
    have Hb2 := Lib.hid (hb2)
    clear hb2
    go_wp2_with fail
    refine (hen.out w2).mono ?_
    rintro e w' ⟨rfl, rfl⟩
    rw [dE]
    go_wp2_with fail
    refine (hfi.out w2).mono ?_
    rintro e w' ⟨rfl, rfl⟩
    rw [dF]
    go_wp2_with fail
    refine (Sure.out w2 (HG.out.below Hb2.out)).mono ?_
    rintro e w3 ⟨rfl, hb3⟩
    have Hb3 := Lib.hid (Hb2.out.trans (hb3.mono Hb2.out.size))
    clear hb3
    go_wp2
    go_ret
    exact ⟨rfl, Hb3.out⟩
  | true =>
    cases D2 with
    | true => exact absurd (h12 rfl rfl) id
    | false =>
      clear h12
      go_enter Tryd.func3, Tryd.ntmps3
      go_wp2_with fail
      refine hsp.out.mono ?_
      rintro e w' ⟨rfl, rfl⟩
      go_wp2_with fail
      refine hrs.out.mono ?_
      rintro e w' ⟨rfl, rfl⟩
      go_wp2_with fail
      refine hmo.out.mono ?_
      rintro e w' ⟨rfl, rfl⟩
      go_wp2_with fail
      refine (Num.out w EV E hE.out (Below.refl _ _)).mono ?_
      rintro e w2 ⟨rfl, hb2⟩
      have Hb2 := Lib.hid (hb2)
      clear hb2
      go_wp2_with fail
      refine (hen.out w2).mono ?_
      rintro e w' ⟨rfl, rfl⟩
      rw [dE]
      go_wp2_with fail
      refine (hfi.out w2).mono ?_
      rintro e w' ⟨rfl, rfl⟩
      rw [dF]
      go_wp2_with fail
      refine (Sure.out w2 (HG.out.below Hb2.out)).mono ?_
      rintro e w3 ⟨rfl, hb3⟩
      have Hb3 := Lib.hid (Hb2.out.trans (hb3.mono Hb2.out.size))
      clear hb3
      go_wp2
      go_ret
      exact ⟨rfl, Hb3.out⟩
end Go.Proofs.YtbgebjejgbcadaaDoor
