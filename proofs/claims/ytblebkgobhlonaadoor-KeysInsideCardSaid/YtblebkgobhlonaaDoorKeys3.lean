/-
  keys.Within, and the document's.
-/
import Derived.Test.YtblebkgobhlonaaDoorKeys2
namespace Go.Proofs.YtblebkgobhlonaaDoor
open Go Go.RowKit

theorem with_any (a b : Sp) (w : World) : Calls Tryd.prog 18 #[a.v, b.v] w fun e w' => e = .returned (.bool (withS a b)) ∧ Below w.heap.size w w' := by
  have e1 := emp_any a
  have e2 := emp_any b
  have e3 := end_any a b
  have hs := two_spans w SPT a b
  have hb := two_below w (.cells #[.string a.lo, .string a.hi, .bool a.op] SPT) (.cells #[.string b.lo, .string b.hi, .bool b.op] SPT)
  obtain ⟨lo, hi, op⟩ := a
  obtain ⟨lo2, hi2, op2⟩ := b
  unfold withS
  unfold Sp.v at *
  dsimp only at *
  have h1 : Op.bytesLess lo.toList lo2.toList = blt lo lo2 := rfl
  generalize blt lo lo2 = D1 at *
  generalize empS ⟨lo, hi, op⟩ = E1 at *
  generalize empS ⟨lo2, hi2, op2⟩ = E2 at *
  generalize endS ⟨lo, hi, op⟩ ⟨lo2, hi2, op2⟩ = D2 at *
  have HE := Lib.hid (And.intro e1 (And.intro e2 e3))
  have Hs := Lib.hid hs
  have Hb := Lib.hid hb
  clear e1 e2 e3 hs hb
  go_enter Tryd.func18, Tryd.ntmps18
  go_wp2_with fail
  refine (HE.out.1 _).mono ?_
  rintro e w1 ⟨rfl, hb1⟩
  obtain ⟨s1, s2⟩ := Hs.out
  have s1 := s1.ext hb1
  have s2 := s2.ext hb1
  have Hb1 := Lib.hid (Hb.out.trans (hb1.mono Hb.out.size))
  clear hb1 Hb Hs
  cases E1 with
  | true =>
    clear s1 s2
    go_wp2_with fail
    go_ret
    exact ⟨rfl, Hb1.out⟩
  | false =>
    have c0 := s1.c0
    have c1 := s1.c1
    have c2 := s1.c2
    have k0 := s2.c0
    have k1 := s2.c1
    have k2 := s2.c2
    dsimp only at c0 c1 c2 k0 k1 k2
    have Hs := Lib.hid (And.intro s1 s2)
    clear s1 s2
    go_wp2_with fail
    refine (HE.out.2.1 _).mono ?_
    rintro e w2 ⟨rfl, hb2⟩
    obtain ⟨s1, s2⟩ := Hs.out
    have s1 := s1.ext hb2
    have s2 := s2.ext hb2
    have Hb2 := Lib.hid (Hb1.out.trans (hb2.mono Hb1.out.size))
    clear c0 c1 c2 k0 k1 k2 hb2 Hb1 Hs
    have c0 := s1.c0
    have c1 := s1.c1
    have c2 := s1.c2
    have k0 := s2.c0
    have k1 := s2.c1
    have k2 := s2.c2
    dsimp only at c0 c1 c2 k0 k1 k2
    clear s1 s2
    cases E2 with
    | true =>
      go_wp2_with fail
      go_ret
      exact ⟨rfl, Hb2.out⟩
    | false =>
      cases D1 with
      | true =>
        go_wp2_with fail
        go_ret
        exact ⟨rfl, Hb2.out⟩
      | false =>
        go_wp2_with fail
        refine (HE.out.2.2 _).mono ?_
        rintro e w3 ⟨rfl, hb3⟩
        have Hb3 := Lib.hid (Hb2.out.trans (hb3.mono Hb2.out.size))
        clear c0 c1 c2 k0 k1 k2 hb3 Hb2
        go_wp2_with fail
        go_ret
        exact ⟨rfl, Hb3.out⟩
set_option maxRecDepth 100000 in
theorem refWith_any (a b : Sp) (w : World) (ha : a.lo.size ≤ 1000000) (hb : b.lo.size ≤ 1000000) (hh : b.hi.size ≤ 1000000) : Calls Tryd.prog 19 #[a.v, b.v] w fun e w' => e = .returned (.bool (withS a b)) ∧ Below w.heap.size w w' := by
  have e1 := fun w => refEmp_any a w ha
  have e2 := fun w => refEmp_any b w hb
  have l1 := fun w => less_any a.lo b.lo w ha
  have l2 := fun w => less_any b.hi a.hi w hh
  have hs := two_spans w RSP a b
  have hbl := two_below w (.cells #[.string a.lo, .string a.hi, .bool a.op] RSP) (.cells #[.string b.lo, .string b.hi, .bool b.op] RSP)
  clear ha hb hh
  obtain ⟨lo, hi, op⟩ := a
  obtain ⟨lo2, hi2, op2⟩ := b
  unfold withS endS
  unfold Sp.v at *
  dsimp only at *
  generalize blt lo lo2 = D1 at *
  generalize blt hi2 hi = D2 at *
  generalize empS ⟨lo, hi, op⟩ = E1 at *
  generalize empS ⟨lo2, hi2, op2⟩ = E2 at *
  have HE := Lib.hid (And.intro e1 (And.intro e2 (And.intro l1 l2)))
  have Hs := Lib.hid hs
  have Hb := Lib.hid hbl
  clear e1 e2 l1 l2 hs hbl
  go_enter Tryd.func19, Tryd.ntmps19
  go_wp2_with fail
  refine (HE.out.1 _).mono ?_
  rintro e w1 ⟨rfl, hb1⟩
  obtain ⟨s1, s2⟩ := Hs.out
  have s1 := s1.ext hb1
  have s2 := s2.ext hb1
  have Hb1 := Lib.hid (Hb.out.trans (hb1.mono Hb.out.size))
  clear hb1 Hb Hs
  cases E1 with
  | true =>
    clear s1 s2
    go_wp2_with fail
    go_ret
    exact ⟨rfl, Hb1.out⟩
  | false =>
    have c0 := s1.c0
    have c1 := s1.c1
    have c2 := s1.c2
    have k0 := s2.c0
    have k1 := s2.c1
    have k2 := s2.c2
    dsimp only at c0 c1 c2 k0 k1 k2
    have Hs := Lib.hid (And.intro s1 s2)
    clear s1 s2
    go_wp2_with fail
    refine (HE.out.2.1 _).mono ?_
    rintro e w2 ⟨rfl, hb2⟩
    obtain ⟨s1, s2⟩ := Hs.out
    have s1 := s1.ext hb2
    have s2 := s2.ext hb2
    have Hb2 := Lib.hid (Hb1.out.trans (hb2.mono Hb1.out.size))
    clear c0 c1 c2 k0 k1 k2 hb2 Hb1 Hs
    have c0 := s1.c0
    have c1 := s1.c1
    have c2 := s1.c2
    have k0 := s2.c0
    have k1 := s2.c1
    have k2 := s2.c2
    dsimp only at c0 c1 c2 k0 k1 k2
    cases E2 with
    | true =>
      clear s1 s2
      go_wp2_with fail
      go_ret
      exact ⟨rfl, Hb2.out⟩
    | false =>
      have Hs := Lib.hid (And.intro s1 s2)
      clear s1 s2
      go_wp2_with fail
      refine (HE.out.2.2.1 _).mono ?_
      rintro e w3 ⟨rfl, hb3⟩
      obtain ⟨s1, s2⟩ := Hs.out
      have s1 := s1.ext hb3
      have s2 := s2.ext hb3
      have Hb3 := Lib.hid (Hb2.out.trans (hb3.mono Hb2.out.size))
      clear c0 c1 c2 k0 k1 k2 hb3 Hb2 Hs
      have c0 := s1.c0
      have c1 := s1.c1
      have c2 := s1.c2
      have k0 := s2.c0
      have k1 := s2.c1
      have k2 := s2.c2
      dsimp only at c0 c1 c2 k0 k1 k2
      clear s1 s2
      cases D1 with
      | true =>
        go_wp2_with fail
        go_ret
        exact ⟨rfl, Hb3.out⟩
      | false =>
        cases op2 with
        | true =>
          go_wp2_with fail
          go_ret
          exact ⟨rfl, Hb3.out⟩
        | false =>
          cases op with
          | true =>
            go_wp2_with fail
            go_ret
            exact ⟨rfl, Hb3.out⟩
          | false =>
            go_wp2_with fail
            refine (HE.out.2.2.2 _).mono ?_
            rintro e w4 ⟨rfl, hb4⟩
            have Hb4 := Lib.hid (Hb3.out.trans (hb4.mono Hb3.out.size))
            clear c0 c1 c2 k0 k1 k2 hb4 Hb3
            go_wp2_with fail
            go_ret
            exact ⟨rfl, Hb4.out⟩
end Go.Proofs.YtblebkgobhlonaaDoor
