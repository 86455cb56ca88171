/-
  fill's isSize, Enough, Fits, sum, canSplit, middle, Split.
-/
import Derived.Test.YtmcbdkmpelkemaaDoorFillMathZ
import Derived.Test.YtmcbdkmpelkemaaDoorAsZ
import Derived.WalkKit
import Derived.Lib.Hide
namespace Go.Proofs.YtmcbdkmpelkemaaDoor
open Go Go.RowKit

theorem isSize_any (p : Int) (w : World) : Calls Tryd.prog 62 #[.int .i64 p] w fun e w' => e = .returned (.bool (okI p)) ∧ w = w' := by
  unfold okI
  by_cases h2 : 0 ≤ p
  · have e2 : decide (0 ≤ p) = true := decide_eq_true h2
    by_cases h3 : p ≤ 1024
    · have e3 : decide (p ≤ 1024) = true := decide_eq_true h3
      rw [e2, e3]
      go_enter Tryd.func62, Tryd.ntmps62
      go_wp2
      go_ret
      exact ⟨rfl, rfl⟩
    · have e3 : decide (p ≤ 1024) = false := decide_eq_false h3
      rw [e2, e3]
      go_enter Tryd.func62, Tryd.ntmps62
      go_wp2
      go_ret
      exact ⟨rfl, rfl⟩
  · have e2 : decide (0 ≤ p) = false := decide_eq_false h2
    rw [e2]
    go_enter Tryd.func62, Tryd.ntmps62
    go_wp2
    go_ret
    exact ⟨rfl, rfl⟩
theorem enough_any (p : Int) (w : World) : Calls Tryd.prog 51 #[.int .i64 p] w fun e w' => e = .returned (.bool (decide (126 ≤ p))) ∧ w = w' := by
  go_enter Tryd.func51, Tryd.ntmps51
  go_wp2
  go_ret
  exact ⟨rfl, rfl⟩
/-- From 0 to 504. -/
def fiB (p : Int) : Bool := decide (0 ≤ p) && decide (p ≤ 504)
theorem fits_any (p : Int) (w : World) : Calls Tryd.prog 45 #[.int .i64 p] w fun e w' => e = .returned (.bool (fiB p)) ∧ w = w' := by
  unfold fiB
  by_cases h2 : 0 ≤ p
  · have e2 : decide (0 ≤ p) = true := decide_eq_true h2
    by_cases h3 : p ≤ 504
    · have e3 : decide (p ≤ 504) = true := decide_eq_true h3
      rw [e2, e3]
      go_enter Tryd.func45, Tryd.ntmps45
      go_wp2
      go_ret
      exact ⟨rfl, rfl⟩
    · have e3 : decide (p ≤ 504) = false := decide_eq_false h3
      rw [e2, e3]
      go_enter Tryd.func45, Tryd.ntmps45
      go_wp2
      go_ret
      exact ⟨rfl, rfl⟩
  · have e2 : decide (0 ≤ p) = false := decide_eq_false h2
    rw [e2]
    go_enter Tryd.func45, Tryd.ntmps45
    go_wp2
    go_ret
    exact ⟨rfl, rfl⟩
set_option maxRecDepth 100000 in
theorem fsum_any (a : Option Addr) (n c : Nat) (l : List Int) (w : World) (hn : l.length = n) (hs : PgS w a l) (hl : n ≤ 1024) (hok : okTo l n) :
    Calls Tryd.prog 63 #[.slice a n c] w fun e w' => e = .returned (.int .i64 (pf l n)) ∧ w = w' := by
  have Hs := Lib.hid hs
  have Hn := Lib.hid hn
  have Hok := Lib.hid hok
  clear hs hn hok
  go_enter Tryd.func63, Tryd.ntmps63
  go_wp2_with fail
  go_loopw [3, 5, 8] (fun s _ i wr => ∃ k t : Nat, s = .int .i64 t ∧ i = .int .i64 k ∧ k ≤ n ∧ t ≤ 1024 * k ∧ Hid ((t : Int) = pf l k) ∧ w = wr) (fun _ _ i _ => n - (intOf i).toNat)
  case atStart => exact ⟨0, 0, rfl, rfl, by omega, by omega, (pf_zero l).symm, by first | trivial | rfl⟩
  case round =>
    obtain ⟨k, t, rfl, rfl, hk, ht, hts, rfl⟩ := hrel
    by_cases hlt : k < n
    · obtain ⟨g, o, rfl, hcell⟩ := Hs.out (by rw [Hn.out]; omega)
      have q0 := hcell k (by rw [Hn.out]; exact hlt)
      have h1 := (okI_iff _).1 (Hok.out k hlt)
      have h5 : Hid ((t : Int) + ia l k = pf l (k + 1)) := by show _ = _; rw [pf_succ, ← hts.out]
      obtain ⟨x, hx⟩ := Int.eq_ofNat_of_zero_le h1.1
      rw [hx] at q0 h1 h5
      have h6 : x ≤ 1024 := by omega
      clear hcell hts hx h1
      go_wp2
      go_roundw
      case rel => exact ⟨k + 1, t + x, by go_num, by go_num, by omega, by omega, by show _ = _; rw [← h5.out]; omega, trivial⟩
      case measure => simp [intOf]; omega
    · obtain rfl : k = n := by omega
      go_wp2
      go_ret
      exact ⟨by rw [← hts.out]; rfl, rfl⟩
set_option maxRecDepth 100000 in
theorem canSplit_any (a : Option Addr) (n c : Nat) (l : List Int) (b : Int) (w : World) (hn : l.length = n) (hs : PgS w a l) (hl : n ≤ 9223372036854775807) :
    Calls Tryd.prog 54 #[.slice a n c, .int .i64 b] w fun e w' => e = .returned (.bool (canB l b)) ∧ w = w' := by
  have Hs := Lib.hid hs
  have Hn := Lib.hid hn
  have hno := Lib.hid (fun h => canB_no (l := l) (b := b) h)
  have hyes := Lib.hid ((canB_iff l b).2)
  have hb := Lib.hid (isSize_any b w)
  generalize canB l b = CC at *
  rw [hn] at hno hyes
  clear hs hn
  by_cases h1 : n < 2
  · have d1 : decide ((n : Int) < 2) = true := decide_eq_true (by omega)
    have hy := Lib.hid (hno.out (by omega))
    clear hno hyes
    go_enter Tryd.func54, Tryd.ntmps54
    go_wp2
    go_ret
    exact ⟨by rw [hy.out]; rfl, rfl⟩
  have d1 : decide ((n : Int) < 2) = false := decide_eq_false (by omega)
  by_cases h2 : 1024 < n
  · have d2 : decide (1024 < (n : Int)) = true := decide_eq_true (by omega)
    have d2' : decide (1024 < n) = true := decide_eq_true (by omega)
    have hy := Lib.hid (hno.out (by omega))
    clear hno hyes
    go_enter Tryd.func54, Tryd.ntmps54
    go_wp2
    go_ret
    exact ⟨by rw [hy.out]; rfl, rfl⟩
  have d2 : decide (1024 < (n : Int)) = false := decide_eq_false (by omega)
  have d2' : decide (1024 < n) = false := decide_eq_false (by omega)
  cases hB : okI b with
  | false =>
    rw [hB] at hb
    have hy := Lib.hid (hno.out (fun h => by rw [hB] at h; cases h.2.2.1))
    clear hno hyes hB
    go_enter Tryd.func54, Tryd.ntmps54
    go_wp2_with fail
    refine hb.out.mono ?_
    rintro e w' ⟨rfl, rfl⟩
    go_wp2
    go_ret
    exact ⟨by rw [hy.out]; rfl, rfl⟩
  | true =>
    rw [hB] at hb
    have hyes2 := Lib.hid (fun h => hyes.out ⟨by omega, by omega, hB, h⟩)
    have hno2 : Hid (¬ okTo l n → CC = false) := fun h => hno.out (fun h2 => h h2.2.2.2)
    clear hno hyes hB
    go_enter Tryd.func54, Tryd.ntmps54
    go_wp2_with fail
    refine hb.out.mono ?_
    rintro e w' ⟨rfl, rfl⟩
    clear hb
    go_wp2_with fail
    go_loopw [6, 22] (fun _ i wr => ∃ k : Nat, i = .int .i64 k ∧ k ≤ n ∧ Hid (okTo l k) ∧ w = wr) (fun _ i _ => n - (intOf i).toNat)
    case atStart => exact ⟨0, rfl, by omega, fun i hi => by omega, by first | trivial | rfl⟩
    case round =>
      obtain ⟨k, rfl, hk, ht, rfl⟩ := hrel
      by_cases hlt : k < n
      · obtain ⟨g, o, rfl, hcell⟩ := Hs.out (by rw [Hn.out]; omega)
        have q0 := hcell k (by rw [Hn.out]; exact hlt)
        have hst := Lib.hid (fun h => okTo_succ ht.out (k := k) h)
        have hbad : Hid (okI (ia l k) = false → CC = false) := fun h => hno2.out (fun h2 => by have := h2 k hlt; rw [h] at this; cases this)
        have hc := Lib.hid (isSize_any (ia l k) w)
        generalize ia l k = y at *
        generalize okI y = D at *
        clear hcell ht hno2
        cases D with
        | false =>
          have hy := Lib.hid (hbad.out rfl)
          clear hst hbad hyes2
          go_wp2_with fail
          refine hc.out.mono ?_
          rintro e w' ⟨rfl, rfl⟩
          go_wp2
          go_ret
          exact ⟨by rw [hy.out]; rfl, rfl⟩
        | true =>
          have hy := Lib.hid (hst.out rfl)
          clear hst hbad
          go_wp2_with fail
          refine hc.out.mono ?_
          rintro e w' ⟨rfl, rfl⟩
          go_wp2
          go_roundw
          case rel => exact ⟨k + 1, by go_num, by omega, hy, trivial⟩
          case measure => simp [intOf]; omega
      · obtain rfl : k = n := by omega
        have hy := Lib.hid (hyes2.out ht.out)
        clear ht hno2 hyes2
        go_wp2
        go_ret
        exact ⟨by rw [hy.out]; rfl, rfl⟩
end Go.Proofs.YtmcbdkmpelkemaaDoor
