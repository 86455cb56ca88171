/-
  ExtentBack: the law's walk (mkeback.py).
-/
import Derived.Test.YtcimhcibkbbkdaaDoorSure16
import Derived.Test.YtcimhcibkbbkdaaDoorExtLaw
import Derived.Test.YtcimhcibkbbkdaaDoorGr
namespace Go.Proofs.YtcimhcibkbbkdaaDoor
open Go Go.RowKit

theorem XMay.ok {l : List Xt} {p : Int} (h : XMay l p) : ∀ x ∈ l, XOK x := fun x hx => xok_in (h.ins x hx) h.hi
theorem XMay.man {l : List Xt} {p : Int} (h : XMay l p) : xmanS l = xsumM l := by
  unfold xmanS; rw [if_pos ((xmayB_iff _ _).2 (h.mono h.hi (by omega)))]
/-- What is free, and what is reserved of it. -/
structure XBk (F l : List Xt) (A T : Int) : Prop where
  chk : XMay (F ++ l) A
  mF : XMay F A
  sum : xmanS F + xmanS l = A
  full : xrsFull F T = true → xrsE F T = 7 ∧ (xmanS F < T ∨ 8 < F.length)
  not : xrsFull F T = false → xrsE F T = 0 ∧ xmanS (xrsA F T) = T ∧ xmanS (xrsB F T) = xmanS F - T ∧ (xrsA F T).length ≤ 8
  mA : xrsFull F T = false → XMay (xrsA F T) A ∧ XMay (xrsB F T) A ∧ XMay (xrsA F T ++ xrsB F T) A
theorem xback {l : List Xt} {A T : Int} (h : XMay l A) (hT : 1 ≤ T) : XBk (xfreD l A) l A T := by
  have hL := xleft_of h
  generalize xfreD l A = F at *
  have hq := xparts F T (by omega) hL.row (fun x hx => (hL.mayF.ins x hx).2.1)
  have hm := xparts_may (n := T) hL.mayF hL.row (by omega)
  have hok : xrsOk F T = true := by
    unfold xrsOk
    rw [(xmayB_iff _ _).2 (hL.mayF.mono hL.mayF.hi (by omega)), (xascB_iff F).2 (hL.row.asc (fun x hx => by have := (hL.mayF.ins x hx).2.1; omega)), decide_eq_true hT]; rfl
  have eF := hL.mayF.man
  refine ⟨hL.may, hL.mayF, by rw [eF, h.man]; exact hL.sum, fun hf => ⟨by unfold xrsE; rw [if_pos hok, if_pos hf], ?_⟩, fun hf => ?_, fun hf => ?_⟩
  · unfold xrsFull at hf
    simp only [Bool.or_eq_true, decide_eq_true_eq] at hf
    rw [eF]
    rcases hf with hf | hf
    · exact .inl (hq.rest.2 hf)
    · exact .inr (Nat.lt_of_lt_of_le hf (xrsT_len T F))
  · have eA : xrsA F T = xrsT T F := by unfold xrsA; rw [if_pos hok, hf]; rfl
    have eB : xrsB F T = xrsL T F := by unfold xrsB; rw [if_pos hok, hf]; rfl
    unfold xrsFull at hf
    simp only [Bool.or_eq_false_iff, decide_eq_false_iff_not] at hf
    have h0 := hq.rest.1
    have h1 := hq.sum
    have h2 := hq.all
    rw [eA, eB, hm.1.man, hm.2.1.man, eF]
    exact ⟨by unfold xrsE xrsFull; rw [if_pos hok, if_neg (by simp; omega)], by omega, by omega, by omega⟩
  · have eA : xrsA F T = xrsT T F := by unfold xrsA; rw [if_pos hok, hf]; rfl
    have eB : xrsB F T = xrsL T F := by unfold xrsB; rw [if_pos hok, hf]; rfl
    rw [eA, eB]; exact hm
/-- The pages come back. -/
theorem xround {l : List Xt} {A : Int} (h : XMay l A) (i : Int) (h0 : 0 ≤ i) (h1 : i < xmanS l) : ∃ v, xpgV l i = v ∧ xpgE l i = 0 ∧ xnuV l v = i ∧ xnuE l v = 0 ∧ 0 ≤ v ∧ v < A := by
  have hm : xmayB l 1024 = true := (xmayB_iff _ _).2 (h.mono h.hi (by omega))
  rw [h.man] at h1
  obtain ⟨v, hv, x, hx, hx1, hx2⟩ := xpg_some l i (fun x hx => (h.ins x hx).2.1) h0 h1
  have hn := xnu_pg l i 0 v h.par (fun x hx => (h.ins x hx).2.1) h0 h1 hv
  obtain ⟨q1, q2, q3⟩ := h.ins x hx
  refine ⟨v, by unfold xpgV; rw [if_pos hm, if_neg (by omega), hv]; rfl, by unfold xpgE; rw [if_pos hm, if_neg (by omega), hv]; rfl, by unfold xnuV; rw [if_pos hm, hn]; simp, by unfold xnuE; rw [if_pos hm, hn]; rfl, by omega, by omega⟩
/-- Two lists, one behind the other, in a new row. -/
theorem xapp_lists (W : World) (u v : Value) (F l : List Xt) (hu : EV xtE W u F) (hv : EV xtE W v l) (hl : (F.length + l.length) * 16 ≤ 140737488355328) :
    ∃ v1 w1 v2 w2, (Builtin.append_ #[SXT, SXT] SXT #[.slice (some ⟨W.heap.size, 0, none⟩) 0 0, u]).run Tryd.prog (W.alloc (.cells #[] XT)) = .ok v1 w1 ∧ (Builtin.append_ #[SXT, SXT] SXT #[v1, v]).run Tryd.prog w1 = .ok v2 w2 ∧ Below W.heap.size W w2 ∧ EV xtE w2 v2 (F ++ l) := by
  have hb0 : Below W.heap.size W (W.alloc (.cells #[] XT)) := (Below.refl _ _).alloc (Nat.le_refl _) _
  obtain ⟨a, c, rfl, hs, hz, _, _⟩ := hu
  obtain ⟨b, d, rfl, hs2, hz2, _, _⟩ := hv
  obtain ⟨v1, w1, hr1, hb1, ho1⟩ := run_app_own (P := Tryd.prog) (w := W.alloc (.cells #[] XT)) (E := xtE) W.heap.size SXT SXT XT Tryd.underlying24 xinfo _ 0 [] (xown_no xtE W XT) hb0.size a F.length c F rfl hz (hs.below hb0 (Nat.le_refl _)) (by unfold maxLen; omega) (by show _ * 16 ≤ _; omega)
  have hb01 := hb0.trans hb1
  rw [List.nil_append, Nat.zero_add] at ho1
  obtain ⟨v2, w2, hr2, hb2, ho2⟩ := run_app_own (P := Tryd.prog) (w := w1) (E := xtE) W.heap.size SXT SXT XT Tryd.underlying24 xinfo v1 F.length F ho1 hb01.size b l.length d l rfl hz2 (hs2.below hb01 (Nat.le_refl _)) (by unfold maxLen; omega) (by show _ * 16 ≤ _; omega)
  refine ⟨v1, w1, v2, w2, hr1, hr2, hb01.trans hb2, own_xev (B := W.heap.size) (T := XT) ?_⟩
  rw [List.length_append]; exact ho2
set_option maxRecDepth 100000 in
set_option maxHeartbeats 16000000 in
theorem eback_any (a : Option Addr) (n c : Nat) (l : List Xt) (P N : Nat) (w : World) (hn : l.length = n) (hv : XV w (.slice a n c) l) (hl : n * 16 ≤ 140737488355328) (hr : ∀ x ∈ l, XOK x) (hP : P ≤ 255) (hN : N ≤ 65535) (hg : Hg w) :
    Calls Tryd.prog 4 #[.slice a n c, .int .u8 P, .int .u16 N] w fun e w' => e = .returned (.bool true) ∧ Below w.heap.size w w' := by
  have HG : Hid (∀ W, Below w.heap.size w W → Hg W) := fun W hb => hg.below hb
  have Sure : Hid (∀ W, Below w.heap.size w W → Calls Tryd.prog 6 #[] W fun e w' => e = .returned (.bool true) ∧ Below W.heap.size W w') := fun W hb => xsure_any W (HG.out W hb)
  have HB : Hid (Below w.heap.size w w) := Below.refl _ _
  have HV := Lib.hid hv
  have Hn := Lib.hid hn
  have Hr := Lib.hid hr
  have hl6 : Hid (l.length * 16 ≤ 140737488355328) := by show l.length * 16 ≤ _; rw [Hn.out]; exact hl
  have src : Hid (∀ W, XV W (.slice a n c) l → XS W a l) := fun W h => by
    obtain ⟨a', c', he, hs, _⟩ := h
    cases he; exact hs
  obtain ⟨A, hA⟩ : ∃ A : Nat, 1 + P = A := ⟨_, rfl⟩
  have eA : (1 : Int) + (P : Int) = (A : Int) := by omega
  have wA : IntKind.i64.wrap (A : Int) = (A : Int) := by rw [IntKind.wrap_i64]; omega
  have wP : IntKind.i64.wrap (P : Int) = (P : Int) := by rw [IntKind.wrap_i64]; omega
  have wA1 : IntKind.i64.wrap (1 + (P : Int)) = (A : Int) := by rw [IntKind.wrap_i64]; omega
  have hA1 : 1 ≤ A ∧ A ≤ 256 := by omega
  clear hv hr hg hn hA
  by_cases h60 : 60 < n
  · have d1 : decide ((60 : Int) < (n : Int)) = true := decide_eq_true (by omega)
    have d1' : decide (60 < n) = true := decide_eq_true h60
    clear h60
    go_enter Tryd.func4, Tryd.ntmps4
    have HC := Lib.hid (xgive_any a n c l w Hn.out (src.out _ HV.out) hl)
    go_wp2_with fail
    refine HC.out.mono ?_
    rintro e w1 ⟨x, rfl, hx, hb⟩
    replace HB : Hid (Below w.heap.size w w1) := HB.out.trans (hb.mono HB.out.size)
    replace HV : Hid (XV w1 _ l) := HV.out.ext hb
    have HX := Lib.hid hx
    clear hb HC hx
    have HC := Lib.hid (Sure.out w1 HB.out)
    go_wp2_with fail
    refine HC.out.mono ?_
    rintro e w2 ⟨rfl, hb⟩
    replace HB : Hid (Below w.heap.size w w2) := HB.out.trans (hb.mono HB.out.size)
    replace HV : Hid (XV w2 _ l) := HV.out.ext hb
    replace HX := Lib.hid (HX.out.ext hb)
    clear hb HC
    go_wp2
    go_ret
    exact ⟨rfl, HB.out⟩
  · have d1 : decide ((60 : Int) < (n : Int)) = false := decide_eq_false (by omega)
    have d1' : decide (60 < n) = false := decide_eq_false h60
    have hn6 : n ≤ 60 := by omega
    clear h60
    by_cases hm : xmayB l (A : Int) = true
    · have hM := (xmayB_iff _ _).1 hm
      obtain ⟨TT, hTT⟩ : ∃ T : Nat, T = N % (A + 1) := ⟨_, rfl⟩
      have eT : (N : Int).tmod ((A : Int) + 1) = (TT : Int) := by rw [Int.tmod_eq_emod_of_nonneg (by omega), hTT, show (A : Int) + 1 = ((A + 1 : Nat) : Int) by omega]; omega
      have hT9 : TT ≤ A := by rw [hTT]; have := Nat.mod_lt N (show 0 < A + 1 by omega); omega
      obtain ⟨T, hT⟩ : ∃ T : Nat, 1 + TT = T := ⟨_, rfl⟩
      have eT2 : (1 : Int) + (TT : Int) = (T : Int) := by omega
      have hT1 : 1 ≤ T ∧ T ≤ 257 := by omega
      have wN : IntKind.i64.wrap (N : Int) = (N : Int) := by rw [IntKind.wrap_i64]; omega
      have hbk := xback hM (T := (T : Int)) (by omega)
      have hS0 := hM.sum
      rw [← hM.man] at hS0
      obtain ⟨S, hS⟩ := Int.eq_ofNat_of_zero_le hS0.1
      have hS9 : S ≤ A := by omega
      have hrd := fun i h0 h1 => xround hM i h0 h1
      have hsum := hbk.sum
      rw [hS] at hrd hsum
      obtain ⟨F, hF⟩ : ∃ F, xfreD l (A : Int) = F := ⟨_, rfl⟩
      rw [hF] at hbk hsum
      obtain ⟨Q, hQ⟩ : ∃ Q : Nat, xmanS F = (Q : Int) := ⟨(A - S : Nat), by omega⟩
      have hQA : (Q : Int) + (S : Int) = (A : Int) := by rw [← hQ]; exact hsum
      have eF : xfreV l (A : Int) = F ∧ xfreE l (A : Int) = 0 := ⟨by unfold xfreV; rw [if_pos hm, hF], by unfold xfreE; rw [if_pos hm]⟩
      have EF := Lib.hid eF
      have HS := Lib.hid hS
      have HQ := Lib.hid hQ
      have HK := Lib.hid hbk
      have HR := Lib.hid hrd
      have Hm := Lib.hid hm
      have hQ9 : Q ≤ A := by omega
      have wQ : IntKind.i64.wrap ((Q : Int) + (S : Int)) = (A : Int) := by rw [hQA, wA]
      clear hm hM hTT hT hbk hS0 hS hrd hsum hF hQ eF
      go_enter Tryd.func4, Tryd.ntmps4
      have HC := Lib.hid (xgive_any a n c l w Hn.out (src.out _ HV.out) hl)
      go_wp2_with fail
      refine HC.out.mono ?_
      rintro e w1 ⟨x, rfl, hx, hb⟩
      replace HB : Hid (Below w.heap.size w w1) := HB.out.trans (hb.mono HB.out.size)
      replace HV : Hid (XV w1 _ l) := HV.out.ext hb
      have HX := Lib.hid hx
      clear hb HC hx
      have HC2 := Lib.hid (xcheck_any x l (A : Int) w1 HX.out hl6.out Hr.out)
      rw [if_pos Hm.out, errC_0] at HC2
      have HC := Lib.hid (HC2.out)
      go_wp2_with fail
      refine HC.out.mono ?_
      rintro e w2 ⟨rfl, hb⟩
      replace HB : Hid (Below w.heap.size w w2) := HB.out.trans (hb.mono HB.out.size)
      replace HV : Hid (XV w2 _ l) := HV.out.ext hb
      replace HX := Lib.hid (HX.out.ext hb)
      clear hb HC
      clear HC2
      have HC2 := Lib.hid (xmany_any x l w2 HX.out hl6.out Hr.out)
      rw [HS.out] at HC2
      have HC := Lib.hid (HC2.out)
      go_wp2_with fail
      refine HC.out.mono ?_
      rintro e w3 ⟨rfl, hb⟩
      replace HB : Hid (Below w.heap.size w w3) := HB.out.trans (hb.mono HB.out.size)
      replace HV : Hid (XV w3 _ l) := HV.out.ext hb
      replace HX := Lib.hid (HX.out.ext hb)
      clear hb HC
      clear HC2
      obtain ⟨W, hW⟩ : ∃ W, W = w3 := ⟨_, rfl⟩
      subst hW
      have HA : Hid (Below w.heap.size w W) := HB.out
      have HVA := Lib.hid HV.out
      have HXA := Lib.hid HX.out
      clear HB HV HX
      go_wp2_with fail
      go_loopw [10] (fun i wr => ∃ k : Nat, i = .int .i64 k ∧ k ≤ S ∧ Hid (Below W.heap.size W wr)) (fun i _ => S - (intOf i).toNat)
      case atStart => exact ⟨0, rfl, by omega, Below.refl _ _⟩
      case round =>
        obtain ⟨k, rfl, hk, hB⟩ := hrel
        have HB : Hid (Below w.heap.size w wr) := HA.out.trans (hB.out.mono HA.out.size)
        have HV : Hid (XV wr _ l) := HVA.out.ext hB.out
        have HX : Hid (EV xtE wr _ l) := HXA.out.ext hB.out
        by_cases hlt : k < S
        · have i1 : (k : Int) < (S : Int) := by omega
          have i2 : (k : Int) < 300 := by omega
          have i2' : k < 300 := by omega
          have HBW := Lib.hid hB.out
          obtain ⟨v, r1, r2, r3, r4, r5, r6⟩ := HR.out (k : Int) (by omega) (by omega)
          have d2 : decide (v < 0) = false := decide_eq_false (by omega)
          have d3 : decide ((A : Int) ≤ v) = false := decide_eq_false (by omega)
          have R := Lib.hid (And.intro r1 (And.intro r2 (And.intro r3 r4)))
          clear hB r1 r2 r3 r4 r5 r6
          have HC2 := Lib.hid (xpage_any x l (k : Int) wr HX.out hl6.out Hr.out (by omega))
          rw [R.out.1, R.out.2.1, errC_0] at HC2
          have HC := Lib.hid (HC2.out)
          go_wp2_with fail
          refine HC.out.mono ?_
          rintro e w4 ⟨rfl, hb⟩
          replace HB : Hid (Below w.heap.size w w4) := HB.out.trans (hb.mono HB.out.size)
          replace HV : Hid (XV w4 _ l) := HV.out.ext hb
          replace HX := Lib.hid (HX.out.ext hb)
          replace HBW : Hid (Below W.heap.size W w4) := HBW.out.trans (hb.mono HBW.out.size)
          clear hb HC
          clear HC2
          have HC2 := Lib.hid (xnumber_any x l v w4 HX.out hl6.out Hr.out)
          rw [R.out.2.2.1, R.out.2.2.2, errC_0] at HC2
          have HC := Lib.hid (HC2.out)
          go_wp2_with fail
          refine HC.out.mono ?_
          rintro e w5 ⟨rfl, hb⟩
          replace HB : Hid (Below w.heap.size w w5) := HB.out.trans (hb.mono HB.out.size)
          replace HV : Hid (XV w5 _ l) := HV.out.ext hb
          replace HX := Lib.hid (HX.out.ext hb)
          replace HBW : Hid (Below W.heap.size W w5) := HBW.out.trans (hb.mono HBW.out.size)
          clear hb HC
          clear HC2 R
          go_wp2
          go_roundw
          case rel => exact ⟨k + 1, by go_num, by omega, HBW.out⟩
          case measure => simp [intOf]; omega
        · obtain rfl : k = S := by omega
          clear hB HR HA HVA HXA
          have HC2 := Lib.hid (xfree_any x l (A : Int) wr HX.out hl6.out Hr.out)
          rw [EF.out.1, EF.out.2, errC_0] at HC2
          have HC := Lib.hid (HC2.out)
          go_wp2_with fail
          refine HC.out.mono ?_
          rintro e w4 ⟨u, rfl, hu, hb⟩
          replace HB : Hid (Below w.heap.size w w4) := HB.out.trans (hb.mono HB.out.size)
          replace HV : Hid (XV w4 _ l) := HV.out.ext hb
          replace HX := Lib.hid (HX.out.ext hb)
          have HU := Lib.hid hu
          clear hb HC hu
          clear HC2 EF
          obtain ⟨v1, y1, v2, y2, hrun1, hrun2, hb, hev⟩ := xapp_lists w4 u x F l HU.out HX.out (by have := HK.out.mF.len; rw [Hn.out]; omega)
          replace HB : Hid (Below w.heap.size w y2) := HB.out.trans (hb.mono HB.out.size)
          replace HV : Hid (XV y2 _ l) := HV.out.ext hb
          replace HX := Lib.hid (HX.out.ext hb)
          replace HU := Lib.hid (HU.out.ext hb)
          have HC2 := Lib.hid (xcheck_any v2 (F ++ l) (A : Int) y2 hev (by rw [List.length_append, Hn.out]; have := HK.out.mF.len; omega) HK.out.chk.ok)
          rw [if_pos ((xmayB_iff _ _).2 HK.out.chk), errC_0] at HC2
          clear hb hev
          have HC := Lib.hid (HC2.out)
          go_wp2_with (at_builtin; first | refine wpList_append_when (by rfl) (.tmp 88) (.tmp 89) SXT (by rfl) (by rfl) (by rfl) hrun1 ?_ | refine wpList_append_when (by rfl) (.tmp 90) (.tmp 91) SXT (by rfl) (by rfl) (by rfl) hrun2 ?_)
          refine HC.out.mono ?_
          rintro e w5 ⟨rfl, hb⟩
          replace HB : Hid (Below w.heap.size w w5) := HB.out.trans (hb.mono HB.out.size)
          replace HV : Hid (XV w5 _ l) := HV.out.ext hb
          replace HX := Lib.hid (HX.out.ext hb)
          replace HU := Lib.hid (HU.out.ext hb)
          clear hb HC hrun1 hrun2
          clear HC2
          have HC2 := Lib.hid (xmany_any u F w5 HU.out (by have := HK.out.mF.len; omega) HK.out.mF.ok)
          rw [HQ.out] at HC2
          have HC := Lib.hid (HC2.out)
          go_wp2_with fail
          refine HC.out.mono ?_
          rintro e w6 ⟨rfl, hb⟩
          replace HB : Hid (Below w.heap.size w w6) := HB.out.trans (hb.mono HB.out.size)
          replace HV : Hid (XV w6 _ l) := HV.out.ext hb
          replace HX := Lib.hid (HX.out.ext hb)
          replace HU := Lib.hid (HU.out.ext hb)
          clear hb HC
          clear HC2
          have HC2 := Lib.hid (xreserve_any u F (T : Int) w6 HU.out (by have := HK.out.mF.len; omega) HK.out.mF.ok (by omega))
          cases hfl : xrsFull F (T : Int) with
          | true =>
            obtain ⟨f1, f2⟩ := HK.out.full hfl
            rw [f1] at HC2
            rw [HQ.out] at f2
            obtain ⟨m, hmF⟩ : ∃ m, F.length = m := ⟨_, rfl⟩
            rw [hmF] at f2
            have HmF := Lib.hid hmF
            clear hfl f1 hmF
            have HC := Lib.hid (HC2.out)
            go_wp2_with fail
            refine HC.out.mono ?_
            rintro e w7 ⟨r, q, E, rfl, rfl, _, _, hb⟩
            replace HB : Hid (Below w.heap.size w w7) := HB.out.trans (hb.mono HB.out.size)
            replace HV : Hid (XV w7 _ l) := HV.out.ext hb
            replace HX := Lib.hid (HX.out.ext hb)
            replace HU := Lib.hid (HU.out.ext hb)
            clear hb HC
            clear HC2
            have HC := Lib.hid (num_any (errC 7) 7 w7 (errC_is 7) (HG.out _ HB.out))
            rw [errC_7]
            go_wp2_with fail
            refine HC.out.mono ?_
            rintro e w8 ⟨rfl, hb⟩
            replace HB : Hid (Below w.heap.size w w8) := HB.out.trans (hb.mono HB.out.size)
            replace HV : Hid (XV w8 _ l) := HV.out.ext hb
            replace HX := Lib.hid (HX.out.ext hb)
            replace HU := Lib.hid (HU.out.ext hb)
            clear hb HC
            have HC2 := Lib.hid (xmany_any u F w8 HU.out (by have := HK.out.mF.len; omega) HK.out.mF.ok)
            rw [HQ.out] at HC2
            have HC := Lib.hid (HC2.out)
            go_wp2_with fail
            refine HC.out.mono ?_
            rintro e w9 ⟨rfl, hb⟩
            replace HB : Hid (Below w.heap.size w w9) := HB.out.trans (hb.mono HB.out.size)
            replace HV : Hid (XV w9 _ l) := HV.out.ext hb
            replace HX := Lib.hid (HX.out.ext hb)
            replace HU := Lib.hid (HU.out.ext hb)
            clear hb HC
            clear HC2
            obtain ⟨au, cu, rfl, _⟩ := HU.out
            rw [HmF.out] at HU ⊢
            have HSu := Lib.hid (Sure.out w9 HB.out)
            clear HU HX
            by_cases h2 : Q < T
            · have d4 : decide ((Q : Int) < (T : Int)) = true := decide_eq_true (by omega)
              have d4' : decide (Q < T) = true := decide_eq_true h2
              clear f2
              have HC := Lib.hid (HSu.out)
              go_wp2_with fail
              refine HC.out.mono ?_
              rintro e w10 ⟨rfl, hb⟩
              replace HB : Hid (Below w.heap.size w w10) := HB.out.trans (hb.mono HB.out.size)
              replace HV : Hid (XV w10 _ l) := HV.out.ext hb
              clear hb HC
              go_wp2
              go_ret
              exact ⟨rfl, HB.out⟩
            · have d4 : decide ((Q : Int) < (T : Int)) = false := decide_eq_false (by omega)
              have d4' : decide (Q < T) = false := decide_eq_false h2
              have h8 : 8 < m := by
                rcases f2 with h | h
                · omega
                · exact h
              have d5 : decide ((8 : Int) < (m : Int)) = true := decide_eq_true (by omega)
              have d5' : decide (8 < m) = true := decide_eq_true h8
              clear f2
              have HC := Lib.hid (HSu.out)
              go_wp2_with fail
              refine HC.out.mono ?_
              rintro e w10 ⟨rfl, hb⟩
              replace HB : Hid (Below w.heap.size w w10) := HB.out.trans (hb.mono HB.out.size)
              replace HV : Hid (XV w10 _ l) := HV.out.ext hb
              clear hb HC
              go_wp2
              go_ret
              exact ⟨rfl, HB.out⟩
          | false =>
            obtain ⟨f1, f2, f3, f4⟩ := HK.out.not hfl
            obtain ⟨m1, m2, m3⟩ := HK.out.mA hfl
            rw [f1] at HC2
            obtain ⟨RA, hRA⟩ : ∃ RA, xrsA F (T : Int) = RA := ⟨_, rfl⟩
            obtain ⟨RB, hRB⟩ : ∃ RB, xrsB F (T : Int) = RB := ⟨_, rfl⟩
            rw [hRA] at HC2 f2 f4 m1 m3
            rw [hRB] at HC2 f3 m2 m3
            rw [HQ.out] at f3
            have hQT : T ≤ Q := by
              have h1 := m2.sum.1
              rw [← m2.man, f3] at h1; omega
            have wQT : IntKind.i64.wrap ((Q : Int) - (T : Int)) = (Q : Int) - (T : Int) := by rw [IntKind.wrap_i64]; omega
            have FF := Lib.hid (And.intro f2 (And.intro f3 (And.intro m1 (And.intro m2 m3))))
            clear hfl f1 f2 f3 m1 m2 m3 hRA hRB
            have HC := Lib.hid (HC2.out)
            go_wp2_with fail
            refine HC.out.mono ?_
            rintro e w7 ⟨r, q, E, rfl, rfl, hr, hq, hb⟩
            replace HB : Hid (Below w.heap.size w w7) := HB.out.trans (hb.mono HB.out.size)
            replace HV : Hid (XV w7 _ l) := HV.out.ext hb
            replace HX := Lib.hid (HX.out.ext hb)
            replace HU := Lib.hid (HU.out.ext hb)
            have HRA := Lib.hid hr
            have HRB := Lib.hid hq
            clear hb HC hr hq
            clear HC2
            rw [errC_0]
            have HC2 := Lib.hid (xmany_any r RA w7 HRA.out (by have := FF.out.2.2.1.len; omega) FF.out.2.2.1.ok)
            rw [FF.out.1] at HC2
            have HC := Lib.hid (HC2.out)
            go_wp2_with fail
            refine HC.out.mono ?_
            rintro e w8 ⟨rfl, hb⟩
            replace HB : Hid (Below w.heap.size w w8) := HB.out.trans (hb.mono HB.out.size)
            replace HV : Hid (XV w8 _ l) := HV.out.ext hb
            replace HX := Lib.hid (HX.out.ext hb)
            replace HU := Lib.hid (HU.out.ext hb)
            replace HRA := Lib.hid (HRA.out.ext hb)
            replace HRB := Lib.hid (HRB.out.ext hb)
            clear hb HC
            clear HC2
            have HC2 := Lib.hid (xmany_any q RB w8 HRB.out (by have := FF.out.2.2.2.1.len; omega) FF.out.2.2.2.1.ok)
            rw [FF.out.2.1] at HC2
            have HC := Lib.hid (HC2.out)
            go_wp2_with fail
            refine HC.out.mono ?_
            rintro e w9 ⟨rfl, hb⟩
            replace HB : Hid (Below w.heap.size w w9) := HB.out.trans (hb.mono HB.out.size)
            replace HV : Hid (XV w9 _ l) := HV.out.ext hb
            replace HX := Lib.hid (HX.out.ext hb)
            replace HU := Lib.hid (HU.out.ext hb)
            replace HRA := Lib.hid (HRA.out.ext hb)
            replace HRB := Lib.hid (HRB.out.ext hb)
            clear hb HC
            clear HC2
            have HC2 := Lib.hid (xmany_any u F w9 HU.out (by have := HK.out.mF.len; omega) HK.out.mF.ok)
            rw [HQ.out] at HC2
            have HC := Lib.hid (HC2.out)
            go_wp2_with fail
            refine HC.out.mono ?_
            rintro e w10 ⟨rfl, hb⟩
            replace HB : Hid (Below w.heap.size w w10) := HB.out.trans (hb.mono HB.out.size)
            replace HV : Hid (XV w10 _ l) := HV.out.ext hb
            replace HX := Lib.hid (HX.out.ext hb)
            replace HU := Lib.hid (HU.out.ext hb)
            replace HRA := Lib.hid (HRA.out.ext hb)
            replace HRB := Lib.hid (HRB.out.ext hb)
            clear hb HC
            clear HC2
            obtain ⟨m, hmF⟩ : ∃ m, RA.length = m := ⟨_, rfl⟩
            have hm8 : m ≤ 8 := by rw [← hmF]; exact f4
            have d6 : decide ((m : Int) ≤ 8) = true := decide_eq_true (by omega)
            have d6' : decide (m ≤ 8) = true := decide_eq_true hm8
            obtain ⟨v1, y3, v2, y4, hrun1, hrun2, hb, hev⟩ := xapp_lists w10 r q RA RB HRA.out HRB.out (by have := FF.out.2.2.1.len; have := FF.out.2.2.2.1.len; omega)
            replace HB : Hid (Below w.heap.size w y4) := HB.out.trans (hb.mono HB.out.size)
            have HC2 := Lib.hid (xcheck_any v2 (RA ++ RB) (A : Int) y4 hev (by rw [List.length_append]; have := FF.out.2.2.1.len; have := FF.out.2.2.2.1.len; omega) FF.out.2.2.2.2.ok)
            rw [if_pos ((xmayB_iff _ _).2 FF.out.2.2.2.2), errC_0] at HC2
            obtain ⟨ar, cr, rfl, _⟩ := HRA.out
            rw [hmF] at HRA hrun1 ⊢
            clear hb hev HU HX HRA HRB FF HV hmF f4
            have HC := Lib.hid (HC2.out)
            go_wp2_with (at_builtin; first | refine wpList_append_when (by rfl) (.tmp 156) (.tmp 157) SXT (by rfl) (by rfl) (by rfl) hrun1 ?_ | refine wpList_append_when (by rfl) (.tmp 158) (.tmp 159) SXT (by rfl) (by rfl) (by rfl) hrun2 ?_)
            refine HC.out.mono ?_
            rintro e w11 ⟨rfl, hb⟩
            replace HB : Hid (Below w.heap.size w w11) := HB.out.trans (hb.mono HB.out.size)
            clear hb HC hrun1 hrun2
            clear HC2
            have HC := Lib.hid (Sure.out w11 HB.out)
            go_wp2_with fail
            refine HC.out.mono ?_
            rintro e w12 ⟨rfl, hb⟩
            replace HB : Hid (Below w.heap.size w w12) := HB.out.trans (hb.mono HB.out.size)
            clear hb HC
            go_wp2
            go_ret
            exact ⟨rfl, HB.out⟩
    · have Hm := Lib.hid hm
      clear hm
      go_enter Tryd.func4, Tryd.ntmps4
      have HC := Lib.hid (xgive_any a n c l w Hn.out (src.out _ HV.out) hl)
      go_wp2_with fail
      refine HC.out.mono ?_
      rintro e w1 ⟨x, rfl, hx, hb⟩
      replace HB : Hid (Below w.heap.size w w1) := HB.out.trans (hb.mono HB.out.size)
      replace HV : Hid (XV w1 _ l) := HV.out.ext hb
      have HX := Lib.hid hx
      clear hb HC hx
      have HC2 := Lib.hid (xcheck_any x l (A : Int) w1 HX.out hl6.out Hr.out)
      rw [if_neg Hm.out, errC_1] at HC2
      have HC := Lib.hid (HC2.out)
      go_wp2_with fail
      refine HC.out.mono ?_
      rintro e w2 ⟨rfl, hb⟩
      replace HB : Hid (Below w.heap.size w w2) := HB.out.trans (hb.mono HB.out.size)
      replace HV : Hid (XV w2 _ l) := HV.out.ext hb
      replace HX := Lib.hid (HX.out.ext hb)
      clear hb HC
      clear HC2
      have HC := Lib.hid (Sure.out w2 HB.out)
      go_wp2_with fail
      refine HC.out.mono ?_
      rintro e w3 ⟨rfl, hb⟩
      replace HB : Hid (Below w.heap.size w w3) := HB.out.trans (hb.mono HB.out.size)
      replace HV : Hid (XV w3 _ l) := HV.out.ext hb
      replace HX := Lib.hid (HX.out.ext hb)
      clear hb HC
      go_wp2
      go_ret
      exact ⟨rfl, HB.out⟩
end Go.Proofs.YtcimhcibkbbkdaaDoor
