/-
  SheetForms: the law's walk.
-/
import Derived.Test.YtnnifjhpnanijaaDoorRefSheet
import Derived.Test.YtnnifjhpnanijaaDoorRefOpen
import Derived.Test.YtnnifjhpnanijaaDoorSure5
namespace Go.Proofs.YtnnifjhpnanijaaDoor
open Go Go.RowKit

/-- What Seal answers: the page, the error's number. -/
def seS (k : Nat) (l : List Nat) : List Nat × Nat := if ¬ (1 ≤ k ∧ k ≤ 5) then ([], 1) else if 504 < l.length then ([], 5) else (pageL k l, 0)
theorem seal_any (k : Nat) (a : Option Addr) (n c : Nat) (l : List Nat) (hn : l.length = n) (w : World) (hk : k < 256) (hb : B8 l) (hsrc : Src w a l) (hT : WorthIn w) :
    Calls Tryd.prog 7 #[.int .u8 k, .slice a n c] w fun e w' => ∃ v, e = .returned (.tuple #[v, errV (seS k l).2]) ∧ Reads w' v (seS k l).1 ∧ Below w.heap.size w w' := by
  unfold seS
  by_cases h1 : 1 ≤ k ∧ k ≤ 5
  · rw [if_neg (by simpa using h1)]
    by_cases h2 : 504 < l.length
    · rw [if_pos h2]
      refine (seal_long k a n c w h1.1 h1.2 (by omega)).mono ?_
      rintro e w' ⟨rfl, rfl⟩
      exact ⟨_, rfl, Reads.none _, Below.refl _ _⟩
    · rw [if_neg h2]
      refine (seal_in k a n c l hn w h1.1 h1.2 (by omega) hb hsrc hT).mono ?_
      rintro e w' ⟨rfl, hr, hbw⟩
      exact ⟨_, rfl, hr.reads' (pageL_length (by omega)), hbw⟩
  · rw [if_pos h1]
    refine (seal_kind k _ w hk h1).mono ?_
    rintro e w' ⟨rfl, rfl⟩
    exact ⟨_, rfl, Reads.none _, Below.refl _ _⟩
theorem refSeal_any (k : Nat) (a : Option Addr) (n c : Nat) (l : List Nat) (hn : l.length = n) (w : World) (hk : k < 256) (hb : B8 l) (hz : a = none → c = 0) (hsrc : Src w a l) :
    Calls Tryd.prog 8 #[.int .u8 k, .slice a n c] w fun e w' => ∃ v, e = .returned (.tuple #[v, .int .i64 ((seS k l).2 : Nat)]) ∧ Reads w' v (seS k l).1 ∧ Below w.heap.size w w' := by
  unfold seS
  by_cases h1 : 1 ≤ k ∧ k ≤ 5
  · rw [if_neg (by simpa using h1)]
    by_cases h2 : 504 < l.length
    · rw [if_pos h2]
      refine (refSeal_long k a n c w h1.1 h1.2 (by omega)).mono ?_
      rintro e w' ⟨rfl, rfl⟩
      exact ⟨_, rfl, Reads.none _, Below.refl _ _⟩
    · rw [if_neg h2]
      refine (refSeal_in k a n c l hn w h1.1 h1.2 (by omega) hb hz hsrc).mono ?_
      rintro e w' ⟨v, rfl, ho, hbw⟩
      obtain ⟨a', c', rfl, hs⟩ := own_src ho
      exact ⟨_, rfl, ⟨a', c', rfl, hs⟩, hbw⟩
  · rw [if_pos h1]
    refine (refSeal_kind k _ w hk h1).mono ?_
    rintro e w' ⟨rfl, rfl⟩
    exact ⟨_, rfl, Reads.none _, Below.refl _ _⟩
/-- What the law's walk keeps from world to world. -/
structure FKeep (w0 : World) (v1 v2 v3 v4 : Value) (P M : List Nat) (a : Option Addr) (l : List Nat) (w : World) : Prop where
  r1 : Reads w v1 P
  r2 : Reads w v2 P
  r3 : Reads w v3 M
  r4 : Reads w v4 M
  s : Src w a l
  b : Below w0.heap.size w0 w
  g : Hg w
  t : WorthIn w
theorem FKeep.below {w0 w w' : World} {v1 v2 v3 v4 : Value} {P M l : List Nat} {a : Option Addr} (h : FKeep w0 v1 v2 v3 v4 P M a l w) (hb : Below w.heap.size w w') : FKeep w0 v1 v2 v3 v4 P M a l w' :=
  ⟨h.r1.below hb (Nat.le_refl _), h.r2.below hb (Nat.le_refl _), h.r3.below hb (Nat.le_refl _), h.r4.below hb (Nat.le_refl _), h.s.below hb (Nat.le_refl _), h.b.trans (hb.mono h.b.size), h.g.below hb, h.t.below hb⟩
theorem allZero_take (l : List Nat) (k : Nat) (h : k < l.length) : allZero (l.take (k + 1)) = (allZero (l.take k) && (l.getD k 0 == 0)) := by
  rw [take_snoc l k h]; simp [allZero]
set_option maxRecDepth 100000 in
set_option maxHeartbeats 4000000 in
theorem forms_any (k : Nat) (a b : Option Addr) (la lb : List Nat) (na nb ca cb : Nat) (ha : la.length = na) (hb : lb.length = nb) (w : World) (hk : k < 256) (h8a : B8 la) (h8b : B8 lb) (hsa : Src w a la) (hsb : Src w b lb) (hza : a = none → ca = 0)
    (hlb : nb ≤ cb) (hna : na ≤ 140737488355328) (hcb : cb ≤ 140737488355328) (hg : Hg w) (hT : WorthIn w) :
    Calls Tryd.prog 3 #[.int .u8 k, .slice a na ca, .slice b nb cb] w fun e w' => e = .returned (.bool true) ∧ Below w.heap.size w w' := by
  by_cases hbig : 2000 < na
  · have d1 : decide (2000 < (na : Int)) = true := by simp; omega
    go_enter Tryd.func3, Tryd.ntmps3
    go_wp2_with fail
    refine (sure_any _ hg hT).mono ?_
    rintro e w6 ⟨rfl, hb6⟩
    go_wp2_with fail
    go_ret
    exact ⟨rfl, hb6⟩
  have d1 : decide (2000 < (na : Int)) = false := by simp; omega
  by_cases hbig2 : 2000 < nb
  · have d2 : decide (2000 < (nb : Int)) = true := by simp; omega
    go_enter Tryd.func3, Tryd.ntmps3
    go_wp2_with fail
    refine (sure_any _ hg hT).mono ?_
    rintro e w6 ⟨rfl, hb6⟩
    go_wp2_with fail
    go_ret
    exact ⟨rfl, hb6⟩
  have d2 : decide (2000 < (nb : Int)) = false := by simp; omega
  have F1 := fun wx hs ht => seal_any k a na ca la ha wx hk h8a hs ht
  have F2 := fun wx hs => refSeal_any k a na ca la ha wx hk h8a hza hs
  have F3 := fun wx hs ht => open_any b nb cb lb hb wx h8b hlb hcb hs ht
  have F4 := fun wx hs => refOpen_any b nb cb lb hb wx h8b hlb hcb hs
  obtain ⟨P, hP⟩ : ∃ P, P = (seS k la).1 := ⟨_, rfl⟩
  obtain ⟨F, hF⟩ : ∃ F, F = (seS k la).2 := ⟨_, rfl⟩
  obtain ⟨K, hK⟩ : ∃ K, K = (opS lb).1 := ⟨_, rfl⟩
  obtain ⟨M, hM⟩ : ∃ M, M = (opS lb).2.1 := ⟨_, rfl⟩
  obtain ⟨G, hG⟩ : ∃ G, G = (opS lb).2.2 := ⟨_, rfl⟩
  rw [← hP, ← hF] at F1 F2
  rw [← hK, ← hM, ← hG] at F3 F4
  have Hsb := Lib.hid hsb
  have H := Lib.hid (And.intro F1 (And.intro F2 (And.intro F3 F4)))
  have Ha := Lib.hid ha
  have Hg := Lib.hid hg
  have HT := Lib.hid hT
  have Hsa := Lib.hid hsa
  clear F1 F2 F3 F4 hP hF hK hM hG ha hb hg hT hsa hsb
  have nF := errV_is F
  have nG := errV_is G
  generalize errV F = eF at *
  generalize errV G = eG at *
  have HN := Lib.hid (And.intro nF nG)
  clear nF nG
  go_enter Tryd.func3, Tryd.ntmps3
  go_wp2_with fail
  refine (H.out.1 w Hsa.out HT.out).mono ?_
  rintro e w1 ⟨v1, rfl, hv1, hb1⟩
  go_wp2_with fail
  refine (H.out.2.1 w1 (Hsa.out.below hb1 (Nat.le_refl _))).mono ?_
  rintro e w2 ⟨v2, rfl, hv2, hb2⟩
  have hbb2 := hb1.trans (hb2.mono hb1.size)
  have hv12 := hv1.below hb2 (Nat.le_refl _)
  clear hv1 hb1 hb2
  go_wp2_with fail
  refine (H.out.2.2.1 w2 (Hsb.out.below hbb2 (Nat.le_refl _)) (HT.out.below hbb2)).mono ?_
  rintro e w3 ⟨v3, rfl, hv3, hb3⟩
  have hbb3 := hbb2.trans (hb3.mono hbb2.size)
  have hv13 := hv12.below hb3 (Nat.le_refl _)
  have hv23 := hv2.below hb3 (Nat.le_refl _)
  clear hv12 hv2 hbb2 hb3
  go_wp2_with fail
  refine (H.out.2.2.2 w3 (Hsb.out.below hbb3 (Nat.le_refl _))).mono ?_
  rintro e w4 ⟨v4, rfl, hv4, hb4⟩
  have hbb4 := hbb3.trans (hb4.mono hbb3.size)
  have HK : Hid (FKeep w v1 v2 v3 v4 P M a la w4) := ⟨hv13.below hb4 (Nat.le_refl _), hv23.below hb4 (Nat.le_refl _), hv3.below hb4 (Nat.le_refl _), hv4, Hsa.out.below hbb4 (Nat.le_refl _), hbb4, Hg.out.below hbb4, HT.out.below hbb4⟩
  clear hv13 hv23 hv3 hv4 hbb3 hbb4 hb4 H Hsa Hsb HT Hg
  go_wp2_with fail
  go_loop [17, 18] (fun z i => ∃ j : Nat, j ≤ na ∧ i = .int .i64 j ∧ z = .bool (allZero (la.take j))) (fun _ i => na - (intOf i).toNat)
  case atStart => exact ⟨0, Nat.zero_le _, rfl, rfl⟩
  case round =>
    obtain ⟨j, hj, rfl, rfl⟩ := hrel
    by_cases hlt : j < na
    · have hstep := allZero_take la j (by rw [Ha.out]; exact hlt)
      obtain ⟨bb, o, rfl, hc⟩ := HK.out.s (by rw [Ha.out]; omega)
      have hcell := hc j (by rw [Ha.out]; exact hlt)
      have hz : (((la.getD j 0 : Nat) : Int) == 0) = (la.getD j 0 == 0) := by rw [Bool.eq_iff_iff, beq_iff_eq, beq_iff_eq]; omega
      have Hst := Lib.hid hstep
      clear hc hstep
      generalize la.getD j 0 = X at *
      generalize (X == 0) = D at *
      cases hz2 : allZero (la.take j) with
      | true =>
        rw [hz2] at Hst
        go_wp2_with fail
        go_round
        case rel => exact ⟨j + 1, by omega, by go_num, by rw [Hst.out, Bool.true_and]⟩
        case measure => simp [intOf]; omega
      | false =>
        rw [hz2] at Hst
        clear hcell hz
        go_wp2_with fail
        go_round
        case rel => exact ⟨j + 1, by omega, by go_num, by rw [Hst.out, Bool.false_and]⟩
        case measure => simp [intOf]; omega
    · obtain rfl : j = na := by omega
      have e1 : la.take j = la := by rw [← Ha.out]; exact List.take_length
      rw [e1]
      clear e1
      by_cases h504 : 504 < j
      · have d5 : decide (504 < (j : Int)) = true := by simp; omega
        go_wp2_with fail
        refine (room_out (j : Int) w4 (by omega)).mono ?_
        rintro e w' ⟨rfl, rfl⟩
        go_wp2_with fail
        refine (num_err 1 w4 HK.out.g).mono ?_
        rintro e w6 ⟨rfl, hb6⟩
        have HW := Lib.hid (HK.out.below hb6)
        clear HK hb6
        have hp := HW.out.r1.conv
        have hq := HW.out.r2.conv
        generalize bstr P = SP at *
        go_wp2_with fail
        refine (num_any eF _ w6 HN.out.1 HW.out.g).mono ?_
        rintro e w7 ⟨rfl, hb7⟩
        have HW7 := Lib.hid (HW.out.below hb7)
        clear HW hb7 hp hq
        have hl := HW7.out.r3.conv
        have hm := HW7.out.r4.conv
        generalize bstr M = SM at *
        go_wp2_with fail
        refine (num_any eG _ w7 HN.out.2 HW7.out.g).mono ?_
        rintro e w8 ⟨rfl, hb8⟩
        have HW8 := Lib.hid (HW7.out.below hb8)
        clear HW7 hb8 hl hm
        go_wp2_with fail
        refine (blank_any a j ca la Ha.out w8 (by omega) HW8.out.s).mono ?_
        rintro e w' ⟨rfl, rfl⟩
        generalize allZero la = Z at *
        go_wp2_with fail
        refine (sure_any _ HW8.out.g HW8.out.t).mono ?_
        rintro e w9 ⟨rfl, hb9⟩
        go_wp2_with fail
        go_ret
        exact ⟨rfl, HW8.out.b.trans (hb9.mono HW8.out.b.size)⟩
      · have d5 : decide (504 < (j : Int)) = false := by simp; omega
        go_wp2_with fail
        refine (room_in j w4 (by omega)).mono ?_
        rintro e w' ⟨rfl, rfl⟩
        have HW := Lib.hid HK.out
        clear HK
        have hp := HW.out.r1.conv
        have hq := HW.out.r2.conv
        generalize bstr P = SP at *
        go_wp2_with fail
        refine (num_any eF _ w4 HN.out.1 HW.out.g).mono ?_
        rintro e w7 ⟨rfl, hb7⟩
        have HW7 := Lib.hid (HW.out.below hb7)
        clear HW hb7 hp hq
        have hl := HW7.out.r3.conv
        have hm := HW7.out.r4.conv
        generalize bstr M = SM at *
        go_wp2_with fail
        refine (num_any eG _ w7 HN.out.2 HW7.out.g).mono ?_
        rintro e w8 ⟨rfl, hb8⟩
        have HW8 := Lib.hid (HW7.out.below hb8)
        clear HW7 hb8 hl hm
        go_wp2_with fail
        refine (blank_any a j ca la Ha.out w8 (by omega) HW8.out.s).mono ?_
        rintro e w' ⟨rfl, rfl⟩
        generalize allZero la = Z at *
        go_wp2_with fail
        refine (sure_any _ HW8.out.g HW8.out.t).mono ?_
        rintro e w9 ⟨rfl, hb9⟩
        go_wp2_with fail
        go_ret
        exact ⟨rfl, HW8.out.b.trans (hb9.mono HW8.out.b.size)⟩
end Go.Proofs.YtnnifjhpnanijaaDoor
