/-
  fill's isSize, Enough, Fits, sum, canSplit, middle, Split.
  fill's middle, Split; the document's Greater, Split.
-/
import Derived.Test.YtbgkjniagedcnaaGreatDoorFillMathZ
import Derived.Test.YtbgkjniagedcnaaGreatDoorAsZ
import Derived.WalkKit
import Derived.Lib.Hide
namespace Go.Proofs.YtbgkjniagedcnaaGreatDoor
open Go Go.RowKit

theorem isSize_any (p : Int) (w : World) : Calls Tryz.prog 99 #[.int .i64 p] w fun e w' => e = .returned (.bool (okI p)) ∧ w = w' := by
  unfold okI
  by_cases h2 : 0 ≤ p
  · have e2 : decide (0 ≤ p) = true := decide_eq_true h2
    by_cases h3 : p ≤ 1024
    · have e3 : decide (p ≤ 1024) = true := decide_eq_true h3
      rw [e2, e3]
      go_enter Tryz.func99, Tryz.ntmps99
      go_wp2
      go_ret
      exact ⟨rfl, rfl⟩
    · have e3 : decide (p ≤ 1024) = false := decide_eq_false h3
      rw [e2, e3]
      go_enter Tryz.func99, Tryz.ntmps99
      go_wp2
      go_ret
      exact ⟨rfl, rfl⟩
  · have e2 : decide (0 ≤ p) = false := decide_eq_false h2
    rw [e2]
    go_enter Tryz.func99, Tryz.ntmps99
    go_wp2
    go_ret
    exact ⟨rfl, rfl⟩
theorem enough_any (p : Int) (w : World) : Calls Tryz.prog 83 #[.int .i64 p] w fun e w' => e = .returned (.bool (decide (126 ≤ p))) ∧ w = w' := by
  go_enter Tryz.func83, Tryz.ntmps83
  go_wp2
  go_ret
  exact ⟨rfl, rfl⟩
/-- From 0 to 504. -/
def fiB (p : Int) : Bool := decide (0 ≤ p) && decide (p ≤ 504)
theorem fits_any (p : Int) (w : World) : Calls Tryz.prog 63 #[.int .i64 p] w fun e w' => e = .returned (.bool (fiB p)) ∧ w = w' := by
  unfold fiB
  by_cases h2 : 0 ≤ p
  · have e2 : decide (0 ≤ p) = true := decide_eq_true h2
    by_cases h3 : p ≤ 504
    · have e3 : decide (p ≤ 504) = true := decide_eq_true h3
      rw [e2, e3]
      go_enter Tryz.func63, Tryz.ntmps63
      go_wp2
      go_ret
      exact ⟨rfl, rfl⟩
    · have e3 : decide (p ≤ 504) = false := decide_eq_false h3
      rw [e2, e3]
      go_enter Tryz.func63, Tryz.ntmps63
      go_wp2
      go_ret
      exact ⟨rfl, rfl⟩
  · have e2 : decide (0 ≤ p) = false := decide_eq_false h2
    rw [e2]
    go_enter Tryz.func63, Tryz.ntmps63
    go_wp2
    go_ret
    exact ⟨rfl, rfl⟩
set_option maxRecDepth 100000 in
theorem fsum_any (a : Option Addr) (n c : Nat) (l : List Int) (w : World) (hn : l.length = n) (hs : PgS w a l) (hl : n ≤ 1024) (hok : okTo l n) :
    Calls Tryz.prog 100 #[.slice a n c] w fun e w' => e = .returned (.int .i64 (pf l n)) ∧ w = w' := by
  have Hs := Lib.hid hs
  have Hn := Lib.hid hn
  have Hok := Lib.hid hok
  clear hs hn hok
  go_enter Tryz.func100, Tryz.ntmps100
  go_wp2_with fail
  go_loopw [3, 5, 8] (fun s _ i wr => ∃ k t : Nat, s = .int .i64 t ∧ i = .int .i64 k ∧ k ≤ n ∧ t ≤ 1024 * k ∧ Hid ((t : Int) = pf l k) ∧ w = wr) (fun _ _ i _ => n - (intOf i).toNat)
  case atStart => exact ⟨0, 0, rfl, rfl, by omega, by omega, (pf_zero l).symm, by first | trivial | rfl⟩
  case round =>
    obtain ⟨k, t, rfl, rfl, hk, ht, hts, rfl⟩ := hrel
    by_cases hlt : k < n
    · obtain ⟨g, o, rfl, hcell⟩ := Hs.out (by rw [Hn.out]; omega)
      have q0 := hcell k (by rw [Hn.out]; exact hlt)
      have h1 := (okI_iff _).1 (Hok.out k hlt)
      have h5 : Hid ((t : Int) + ia l k = pf l (k + 1)) := by show _ = _; rw [pf_succ, ← hts.out]
      obtain ⟨x, hx⟩ := Int.eq_ofNat_of_zero_le h1.1
      rw [hx] at q0 h1 h5
      have h6 : x ≤ 1024 := by omega
      clear hcell hts hx h1
      go_wp2
      go_roundw
      case rel => exact ⟨k + 1, t + x, by go_num, by go_num, by omega, by omega, by show _ = _; rw [← h5.out]; omega, trivial⟩
      case measure => simp [intOf]; omega
    · obtain rfl : k = n := by omega
      go_wp2
      go_ret
      exact ⟨by rw [← hts.out]; rfl, rfl⟩
set_option maxRecDepth 100000 in
theorem canSplit_any (a : Option Addr) (n c : Nat) (l : List Int) (b : Int) (w : World) (hn : l.length = n) (hs : PgS w a l) (hl : n ≤ 9223372036854775807) :
    Calls Tryz.prog 93 #[.slice a n c, .int .i64 b] w fun e w' => e = .returned (.bool (canB l b)) ∧ w = w' := by
  have Hs := Lib.hid hs
  have Hn := Lib.hid hn
  have hno := Lib.hid (fun h => canB_no (l := l) (b := b) h)
  have hyes := Lib.hid ((canB_iff l b).2)
  have hb := Lib.hid (isSize_any b w)
  generalize canB l b = CC at *
  rw [hn] at hno hyes
  clear hs hn
  by_cases h1 : n < 2
  · have d1 : decide ((n : Int) < 2) = true := decide_eq_true (by omega)
    have hy := Lib.hid (hno.out (by omega))
    clear hno hyes
    go_enter Tryz.func93, Tryz.ntmps93
    go_wp2
    go_ret
    exact ⟨by rw [hy.out]; rfl, rfl⟩
  have d1 : decide ((n : Int) < 2) = false := decide_eq_false (by omega)
  by_cases h2 : 1024 < n
  · have d2 : decide (1024 < (n : Int)) = true := decide_eq_true (by omega)
    have d2' : decide (1024 < n) = true := decide_eq_true (by omega)
    have hy := Lib.hid (hno.out (by omega))
    clear hno hyes
    go_enter Tryz.func93, Tryz.ntmps93
    go_wp2
    go_ret
    exact ⟨by rw [hy.out]; rfl, rfl⟩
  have d2 : decide (1024 < (n : Int)) = false := decide_eq_false (by omega)
  have d2' : decide (1024 < n) = false := decide_eq_false (by omega)
  cases hB : okI b with
  | false =>
    rw [hB] at hb
    have hy := Lib.hid (hno.out (fun h => by rw [hB] at h; cases h.2.2.1))
    clear hno hyes hB
    go_enter Tryz.func93, Tryz.ntmps93
    go_wp2_with fail
    refine hb.out.mono ?_
    rintro e w' ⟨rfl, rfl⟩
    go_wp2
    go_ret
    exact ⟨by rw [hy.out]; rfl, rfl⟩
  | true =>
    rw [hB] at hb
    have hyes2 := Lib.hid (fun h => hyes.out ⟨by omega, by omega, hB, h⟩)
    have hno2 : Hid (¬ okTo l n → CC = false) := fun h => hno.out (fun h2 => h h2.2.2.2)
    clear hno hyes hB
    go_enter Tryz.func93, Tryz.ntmps93
    go_wp2_with fail
    refine hb.out.mono ?_
    rintro e w' ⟨rfl, rfl⟩
    clear hb
    go_wp2_with fail
    go_loopw [6, 22] (fun _ i wr => ∃ k : Nat, i = .int .i64 k ∧ k ≤ n ∧ Hid (okTo l k) ∧ w = wr) (fun _ i _ => n - (intOf i).toNat)
    case atStart => exact ⟨0, rfl, by omega, fun i hi => by omega, by first | trivial | rfl⟩
    case round =>
      obtain ⟨k, rfl, hk, ht, rfl⟩ := hrel
      by_cases hlt : k < n
      · obtain ⟨g, o, rfl, hcell⟩ := Hs.out (by rw [Hn.out]; omega)
        have q0 := hcell k (by rw [Hn.out]; exact hlt)
        have hst := Lib.hid (fun h => okTo_succ ht.out (k := k) h)
        have hbad : Hid (okI (ia l k) = false → CC = false) := fun h => hno2.out (fun h2 => by have := h2 k hlt; rw [h] at this; cases this)
        have hc := Lib.hid (isSize_any (ia l k) w)
        generalize ia l k = y at *
        generalize okI y = D at *
        clear hcell ht hno2
        cases D with
        | false =>
          have hy := Lib.hid (hbad.out rfl)
          clear hst hbad hyes2
          go_wp2_with fail
          refine hc.out.mono ?_
          rintro e w' ⟨rfl, rfl⟩
          go_wp2
          go_ret
          exact ⟨by rw [hy.out]; rfl, rfl⟩
        | true =>
          have hy := Lib.hid (hst.out rfl)
          clear hst hbad
          go_wp2_with fail
          refine hc.out.mono ?_
          rintro e w' ⟨rfl, rfl⟩
          go_wp2
          go_roundw
          case rel => exact ⟨k + 1, by go_num, by omega, hy, trivial⟩
          case measure => simp [intOf]; omega
      · obtain rfl : k = n := by omega
        have hy := Lib.hid (hyes2.out ht.out)
        clear ht hno2 hyes2
        go_wp2
        go_ret
        exact ⟨by rw [hy.out]; rfl, rfl⟩
end Go.Proofs.YtbgkjniagedcnaaGreatDoor
namespace Go.Proofs.YtbgkjniagedcnaaGreatDoor
open Go Go.RowKit

set_option maxRecDepth 100000 in
theorem middle_any (a : Option Addr) (n c : Nat) (l : List Int) (w : World) (hn : l.length = n) (hs : PgS w a l) (h2 : 2 ≤ n) (hl : n ≤ 1024) (hnc : n ≤ c) (hc : c ≤ maxLen) (hok : okTo l n) :
    Calls Tryz.prog 94 #[.slice a n c] w fun e w' => e = .returned (.tuple #[.int .i64 (bst l (n - 2) : Nat), .int .i64 (gr l (bst l (n - 2)))]) ∧ w = w' := by
  have Hs := Lib.hid hs
  have Hn := Lib.hid hn
  have Hok := Lib.hid hok
  obtain ⟨g, o, rfl, hcell⟩ := hs (by rw [hn]; omega)
  have Hc := Lib.hid hcell
  have hsum := Lib.hid (fsum_any (some ⟨g, o, none⟩) n c l w hn (fun _ => ⟨g, o, rfl, hcell⟩) hl hok)
  have Ht := Lib.hid (pf_range hok)
  obtain ⟨T, hT⟩ := Int.eq_ofNat_of_zero_le (pf_range hok).1
  rw [hT] at hsum
  have hTt : Hid (pf l n = (T : Int)) := hT
  have hT9 : T ≤ 1048576 := by have := Ht.out; omega
  have z1 : IntKind.i64.wrap ((n : Int) - 1) = ((n - 1 : Nat) : Int) := by rw [IntKind.wrap_i64]; omega
  have z2 : ((n - 1 : Nat) : Int) ≤ (c : Int) := by omega
  have z3 : (n - 1 : Nat) ≤ c := by omega
  obtain ⟨m, hm⟩ : ∃ m, m = n - 1 := ⟨_, rfl⟩
  rw [← hm] at z1 z2 z3
  have hmn : Hid (n = m + 1 ∧ 1 ≤ m) := by show _ ∧ _; omega
  have hm9 : m ≤ 1024 := by omega
  have hcm : c ≤ 9223372036854775807 := by unfold maxLen at hc; omega
  clear hs hn hok hcell hT Ht hc hm h2 hl hnc
  go_enter Tryz.func94, Tryz.ntmps94
  go_wp2_with fail
  refine hsum.out.mono ?_
  rintro e w' ⟨rfl, rfl⟩
  clear hsum
  go_wp2_with fail
  go_loopw [4, 5, 6, 7, 8, 9, 10, 19] (fun A B P L _ _ _ i wr => ∃ (k s r p : Nat) (q : Int), A = .int .i64 s ∧ B = .int .i64 r ∧ P = .int .i64 p ∧ L = .int .i64 q ∧ i = .int .i64 k ∧ k ≤ m ∧ s ≤ 1048576 ∧ r ≤ 1048576 ∧ Hid ((s : Int) = pf l k) ∧ Hid ((r : Int) = (T : Int) - pf l k) ∧ Hid (0 < k → p = bst l (k - 1) ∧ q = gr l p) ∧ w = wr) (fun _ _ _ _ _ _ _ i _ => n - (intOf i).toNat)
  case atStart => exact ⟨0, 0, T, 0, 0, rfl, rfl, rfl, rfl, rfl, by omega, by omega, by omega, (pf_zero l).symm, by show _ = _; rw [pf_zero]; omega, fun h => by omega, by first | trivial | rfl⟩
  case round =>
    obtain ⟨k, s, r, p, q, rfl, rfl, rfl, rfl, rfl, hk, hs9, hr9, hsk, hrk, hbest, rfl⟩ := hrel
    by_cases hlt : k < m
    · have q0 := Hc.out k (by rw [Hn.out]; have := hmn.out; omega)
      have h1 := (okI_iff _).1 (Hok.out k (by have := hmn.out; omega))
      have h5 := pf_succ l k
      have h6 := pf_mono Hok.out (show k + 1 ≤ n by have := hmn.out; omega)
      have h7 := (pf_range (okTo_less Hok.out (show k + 1 ≤ n by have := hmn.out; omega))).1
      rw [hTt.out] at h6
      obtain ⟨x, hx⟩ := Int.eq_ofNat_of_zero_le h1.1
      rw [hx] at q0 h1 h5
      rw [h5, ← hsk.out] at h6 h7
      have e1 : x ≤ r := by have := hrk.out; rw [← hsk.out] at this; omega
      have e2 : Hid (((s + x : Nat) : Int) = pf l (k + 1)) := by show _ = _; rw [h5, ← hsk.out]; omega
      have e3 : Hid (((r - x : Nat) : Int) = (T : Int) - pf l (k + 1)) := by show _ = _; have := hrk.out; rw [h5, ← hsk.out]; rw [← hsk.out] at this; omega
      have e4 : (s + x : Nat) ≤ 1048576 := by omega
      have e5 : (r - x : Nat) ≤ 1048576 := by omega
      have z4 : IntKind.i64.wrap ((s : Int) + (x : Int)) = ((s + x : Nat) : Int) := by rw [IntKind.wrap_i64]; omega
      have z5 : IntKind.i64.wrap ((r : Int) - (x : Int)) = ((r - x : Nat) : Int) := by rw [IntKind.wrap_i64]; omega
      obtain ⟨S', hS'⟩ : ∃ S', S' = s + x := ⟨_, rfl⟩
      obtain ⟨R', hR'⟩ : ∃ R', R' = r - x := ⟨_, rfl⟩
      rw [← hS'] at e2 e4 z4
      rw [← hR'] at e3 e5 z5
      obtain ⟨G, hG⟩ : ∃ G : Nat, (G : Int) = max (S' : Int) (R' : Int) := ⟨max S' R', by omega⟩
      have hG2 : Hid ((G : Int) = gr l (k + 1)) := by show _ = _; rw [hG]; unfold gr; rw [Hn.out, hTt.out, ← e3.out, ← e2.out]
      have hG3 : (if S' < R' then (R' : Int) else (S' : Int)) = (G : Int) := by rw [hG]; split <;> omega
      have hG4 : max (S' : Int) (R' : Int) = (G : Int) := hG.symm
      clear h5 h6 h7 hx h1 hS' hR' e1 hG hsk hrk
      by_cases hk0 : k = 0
      · subst hk0
        have b1 : Hid ((0 : Nat) + 1 = bst l 0 ∧ (G : Int) = gr l (0 + 1)) := ⟨rfl, hG2.out⟩
        clear hbest
        simp only [Nat.add_zero] at q0
        go_wp2
        go_roundw
        case rel => exact ⟨1, S', R', 1, G, rfl, rfl, rfl, rfl, by go_num, by omega, e4, e5, e2, e3, fun _ => b1.out, trivial⟩
        case measure => have := hmn.out; simp [intOf]; omega
      · have hb := Lib.hid (hbest.out (by omega))
        have dk : ((k : Int) == 0) = false := by rw [beq_eq_false_iff_ne]; omega
        have dk' : (k == 0) = false := by rw [beq_eq_false_iff_ne]; omega
        have hbs : Hid (bst l k = if (G : Int) < q then k + 1 else p) := by
          show _ = _
          obtain ⟨j, rfl⟩ : ∃ j, k = j + 1 := ⟨k - 1, by omega⟩
          have h1 := hb.out
          rw [Nat.add_sub_cancel] at h1
          rw [bst, ← h1.1, ← hG2.out, ← h1.2]
        by_cases hd : (G : Int) < q
        · have d1 : decide ((G : Int) < q) = true := decide_eq_true hd
          have b2 : Hid (k + 1 = bst l k ∧ (G : Int) = gr l (k + 1)) := ⟨by rw [hbs.out, if_pos hd], hG2.out⟩
          clear hbest hb hbs hG2
          go_wp2
          go_roundw
          case rel => exact ⟨k + 1, S', R', k + 1, G, rfl, rfl, by go_num, rfl, by go_num, by omega, e4, e5, e2, e3, fun _ => b2.out, trivial⟩
          case measure => have := hmn.out; simp [intOf]; omega
        · have d1 : decide ((G : Int) < q) = false := decide_eq_false hd
          have b2 : Hid (p = bst l k ∧ q = gr l p) := ⟨by rw [hbs.out, if_neg hd], hb.out.2⟩
          clear hbest hb hbs hG2
          go_wp2
          go_roundw
          case rel => exact ⟨k + 1, S', R', p, q, rfl, rfl, rfl, rfl, by go_num, by omega, e4, e5, e2, e3, fun _ => b2.out, trivial⟩
          case measure => have := hmn.out; simp [intOf]; omega
    · obtain rfl : k = m := by omega
      have hfin := Lib.hid (hbest.out hmn.out.2)
      have e7 : Hid (n - 2 = k - 1) := by show _ = _; have := hmn.out; omega
      clear hbest
      go_wp2
      go_ret2
      exact ⟨by rw [e7.out, ← hfin.out.1, ← hfin.out.2]; rfl, rfl⟩
set_option maxRecDepth 100000 in
theorem split_any (a : Option Addr) (n c : Nat) (l : List Int) (b : Int) (w : World) (hn : l.length = n) (hs : PgS w a l) (hnc : n ≤ c) (hc : c ≤ maxLen) :
    Calls Tryz.prog 86 #[.slice a n c, .int .i64 b] w fun e w' => e = .returned (.tuple #[.int .i64 (spN l b), errC (spE l b)]) ∧ w = w' := by
  have hcm : n ≤ 9223372036854775807 := by unfold maxLen at hc; omega
  have hcan := Lib.hid (canSplit_any a n c l b w hn hs (by omega))
  cases hB : canB l b with
  | false =>
    rw [hB] at hcan
    rw [(sp_no hB).1, (sp_no hB).2, errC_1]
    go_enter Tryz.func86, Tryz.ntmps86
    go_wp2_with fail
    refine hcan.out.mono ?_
    rintro e w' ⟨rfl, rfl⟩
    go_wp2
    go_ret2
    exact ⟨rfl, rfl⟩
  | true =>
    rw [hB] at hcan
    obtain ⟨h1, h2, h3, h4⟩ := (canB_iff l b).1 hB
    rw [hn] at h1 h2 h4
    have hmid := Lib.hid (middle_any a n c l w hn hs h1 h2 hnc hc h4)
    have hbr := bst_range l (n - 2)
    have hgr := gr_range (by rw [hn]; exact h4) (by omega) (bst l (n - 2)) (by omega)
    have hb := (okI_iff b).1 h3
    have hlong := Lib.hid (sp_long (l := l) (b := b) hB)
    have hyes := Lib.hid (sp_yes (l := l) (b := b) hB)
    rw [hn] at hlong hyes
    generalize bst l (n - 2) = p at *
    generalize gr l p = q at *
    obtain ⟨Q, rfl⟩ := Int.eq_ofNat_of_zero_le hgr.1
    obtain ⟨B, rfl⟩ := Int.eq_ofNat_of_zero_le hb.1
    have z1 : IntKind.i64.wrap ((Q : Int) + (B : Int)) = ((Q + B : Nat) : Int) := by rw [IntKind.wrap_i64]; omega
    have hQB : ((Q + B : Nat) : Int) = (Q : Int) + (B : Int) := by omega
    rw [← hQB] at hlong hyes
    have hfit := Lib.hid (fits_any ((Q + B : Nat) : Int) w)
    generalize Q + B = R at *
    unfold fiB at hfit
    have e0 : decide ((0 : Int) ≤ (R : Int)) = true := decide_eq_true (by omega)
    rw [e0, Bool.true_and] at hfit
    by_cases hlt : 504 < R
    · have e1 : decide ((R : Int) ≤ 504) = false := decide_eq_false (by omega)
      rw [e1] at hfit
      have hy := hlong.out (by omega)
      rw [hy.1, hy.2, errC_5]
      clear hlong hyes hy hQB hgr hb hbr h1 h2 h3 h4 hB e0 e1
      go_enter Tryz.func86, Tryz.ntmps86
      go_wp2_with fail
      refine hcan.out.mono ?_
      rintro e w' ⟨rfl, rfl⟩
      go_wp2_with fail
      refine hmid.out.mono ?_
      rintro e w' ⟨rfl, rfl⟩
      go_wp2_with fail
      refine hfit.out.mono ?_
      rintro e w' ⟨rfl, rfl⟩
      go_wp2
      go_ret2
      exact ⟨rfl, rfl⟩
    · have e1 : decide ((R : Int) ≤ 504) = true := decide_eq_true (by omega)
      rw [e1] at hfit
      have hy := hyes.out (by omega)
      rw [hy.1, hy.2, errC_0]
      clear hlong hyes hy hQB hgr hb hbr h1 h2 h3 h4 hB e0 e1
      go_enter Tryz.func86, Tryz.ntmps86
      go_wp2_with fail
      refine hcan.out.mono ?_
      rintro e w' ⟨rfl, rfl⟩
      go_wp2_with fail
      refine hmid.out.mono ?_
      rintro e w' ⟨rfl, rfl⟩
      go_wp2_with fail
      refine hfit.out.mono ?_
      rintro e w' ⟨rfl, rfl⟩
      go_wp2
      go_ret2
      exact ⟨rfl, rfl⟩
end Go.Proofs.YtbgkjniagedcnaaGreatDoor
