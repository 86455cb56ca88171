/-
  The document's Greater, Split.
-/
import Derived.Test.YtbgebjejgbcadaaDoorFill1
namespace Go.Proofs.YtbgebjejgbcadaaDoor
open Go Go.RowKit

theorem min_lt (k p : Nat) (h : k < p) : min (k + 1) p = k + 1 ∧ min k p = k := ⟨by omega, by omega⟩
theorem min_ge (k p : Nat) (h : ¬ k < p) : min (k + 1) p = p ∧ min k p = p := ⟨by omega, by omega⟩
set_option maxRecDepth 100000 in
theorem refGreater_any (a : Option Addr) (n c : Nat) (l : List Int) (B p : Nat) (w : World) (hn : l.length = n) (hs : PgS w a l) (hl : n ≤ 1024) (hok : okTo l n) (hB : B ≤ 1024) (hp : p ≤ n) :
    Calls Tryd.prog 14 #[.slice a n c, .int .i64 (B : Int), .int .i64 (p : Int)] w fun e w' => e = .returned (.int .i64 (gr l p + (B : Int))) ∧ w = w' := by
  have Hs := Lib.hid hs
  have Hn := Lib.hid hn
  have Hok := Lib.hid hok
  clear hs hn hok
  go_enter Tryd.func14, Tryd.ntmps14
  go_wp2_with fail
  go_loopw [7, 8, 9] (fun u v i wr => ∃ k s r : Nat, u = .int .i64 s ∧ v = .int .i64 r ∧ i = .int .i64 k ∧ k ≤ n ∧ s ≤ 2097152 ∧ r ≤ 2097152 ∧ Hid ((s : Int) = (B : Int) + pf l (min k p)) ∧ Hid ((r : Int) = (B : Int) + pf l k - pf l (min k p)) ∧ w = wr) (fun _ _ i _ => n - (intOf i).toNat)
  case atStart => exact ⟨0, B, B, rfl, rfl, rfl, by omega, by omega, by omega, by show _ = _; rw [Nat.zero_min, pf_zero]; omega, by show _ = _; rw [Nat.zero_min, pf_zero]; omega, by first | trivial | rfl⟩
  case round =>
    obtain ⟨k, s, r, rfl, rfl, rfl, hk, hs9, hr9, hsk, hrk, rfl⟩ := hrel
    by_cases hlt : k < n
    · obtain ⟨g, o, rfl, hcell⟩ := Hs.out (by rw [Hn.out]; omega)
      have q0 := hcell k (by rw [Hn.out]; exact hlt)
      have h1 := (okI_iff _).1 (Hok.out k hlt)
      have h5 := pf_succ l k
      obtain ⟨x, hx⟩ := Int.eq_ofNat_of_zero_le h1.1
      rw [hx] at q0 h1 h5
      have hx9 : x ≤ 1024 := by omega
      have hpr := pf_range (okTo_less Hok.out (show k + 1 ≤ n by omega))
      have hm1 := pf_mono (i := min (k + 1) p) (okTo_less Hok.out (show k + 1 ≤ n by omega)) (by omega)
      have hm0 := (pf_range (okTo_less Hok.out (show min (k + 1) p ≤ n by omega))).1
      by_cases hkp : k < p
      · have d1 : decide ((k : Int) < (p : Int)) = true := decide_eq_true (by omega)
        have d1' : decide (k < p) = true := decide_eq_true hkp
        have e := min_lt k p hkp
        have f1 : Hid (((s + x : Nat) : Int) = (B : Int) + pf l (min (k + 1) p)) := by show _ = _; have := hsk.out; rw [e.2] at this; rw [e.1, h5]; omega
        have f2 : Hid ((r : Int) = (B : Int) + pf l (k + 1) - pf l (min (k + 1) p)) := by show _ = _; have := hrk.out; rw [e.2] at this; rw [e.1]; omega
        have f3 : (s + x : Nat) ≤ 2097152 := by have := f1.out; omega
        clear e hsk hrk hpr hm1 hm0 h5 hx h1 hcell hkp
        go_wp2
        go_roundw
        case rel => exact ⟨k + 1, s + x, r, by go_num, rfl, by go_num, by omega, f3, hr9, f1, f2, trivial⟩
        case measure => simp [intOf]; omega
      · have d1 : decide ((k : Int) < (p : Int)) = false := decide_eq_false (by omega)
        have d1' : decide (k < p) = false := decide_eq_false hkp
        have e := min_ge k p hkp
        have f1 : Hid ((s : Int) = (B : Int) + pf l (min (k + 1) p)) := by show _ = _; have := hsk.out; rw [e.2] at this; rw [e.1]; omega
        have f2 : Hid (((r + x : Nat) : Int) = (B : Int) + pf l (k + 1) - pf l (min (k + 1) p)) := by show _ = _; have := hrk.out; rw [e.2] at this; rw [e.1, h5]; omega
        have f3 : (r + x : Nat) ≤ 2097152 := by have := f2.out; omega
        clear e hsk hrk hpr hm1 hm0 h5 hx h1 hcell hkp
        go_wp2
        go_roundw
        case rel => exact ⟨k + 1, s, r + x, rfl, by go_num, by go_num, by omega, hs9, f3, f1, f2, trivial⟩
        case measure => simp [intOf]; omega
    · obtain rfl : k = n := by omega
      have hG : Hid ((if s < r then (r : Int) else (s : Int)) = gr l p + (B : Int)) := by
        show _ = _
        have h1 := hsk.out
        have h2 := hrk.out
        rw [Nat.min_eq_right hp] at h1 h2
        unfold gr; rw [Hn.out]; split <;> omega
      obtain ⟨R, hR⟩ : ∃ R, R = gr l p + (B : Int) := ⟨_, rfl⟩
      have hG2 := hG.out
      rw [← hR] at hG2
      have HR := Lib.hid hR
      clear hsk hrk hG hR
      go_wp2
      go_ret
      exact ⟨by rw [← HR.out]; rfl, rfl⟩
set_option maxRecDepth 100000 in
theorem refSplit_any (a : Option Addr) (n c : Nat) (l : List Int) (b : Int) (w : World) (hn : l.length = n) (hs : PgS w a l) (hl : n ≤ 9223372036854775807) :
    Calls Tryd.prog 7 #[.slice a n c, .int .i64 b] w fun e w' => e = .returned (.tuple #[.int .i64 (spN l b), .int .i64 (spE l b)]) ∧ w = w' := by
  have Hs := Lib.hid hs
  have Hn := Lib.hid hn
  have hno : Hid (¬ (2 ≤ n ∧ n ≤ 1024 ∧ okI b = true ∧ okTo l n) → spN l b = 0 ∧ spE l b = 1) := fun h => sp_no (canB_no (by rw [hn]; exact h))
  have hcan : Hid (2 ≤ n ∧ n ≤ 1024 ∧ okI b = true ∧ okTo l n → canB l b = true) := fun h => (canB_iff l b).2 (by rw [hn]; exact h)
  have hlong := Lib.hid (sp_long (l := l) (b := b))
  have hyes := Lib.hid (sp_yes (l := l) (b := b))
  rw [hn] at hlong hyes
  generalize spN l b = N at *
  generalize spE l b = E at *
  by_cases h1 : n < 2
  · have d1 : decide ((n : Int) < 2) = true := decide_eq_true (by omega)
    have hy := Lib.hid (hno.out (by omega))
    clear hno hcan hlong hyes hs
    go_enter Tryd.func7, Tryd.ntmps7
    go_wp2
    go_ret2
    exact ⟨by rw [hy.out.1, hy.out.2]; rfl, rfl⟩
  have d1 : decide ((n : Int) < 2) = false := decide_eq_false (by omega)
  by_cases h2 : 1024 < n
  · have d2 : decide (1024 < (n : Int)) = true := decide_eq_true (by omega)
    have d2' : decide (1024 < n) = true := decide_eq_true (by omega)
    have hy := Lib.hid (hno.out (by omega))
    clear hno hcan hlong hyes hs
    go_enter Tryd.func7, Tryd.ntmps7
    go_wp2
    go_ret2
    exact ⟨by rw [hy.out.1, hy.out.2]; rfl, rfl⟩
  have d2 : decide (1024 < (n : Int)) = false := decide_eq_false (by omega)
  have d2' : decide (1024 < n) = false := decide_eq_false (by omega)
  by_cases h3 : b < 0
  · have d3 : decide (b < 0) = true := decide_eq_true h3
    have hy := Lib.hid (hno.out (fun h => by have := (okI_iff b).1 h.2.2.1; omega))
    clear hno hcan hlong hyes hs
    go_enter Tryd.func7, Tryd.ntmps7
    go_wp2
    go_ret2
    exact ⟨by rw [hy.out.1, hy.out.2]; rfl, rfl⟩
  have d3 : decide (b < 0) = false := decide_eq_false h3
  by_cases h4 : 1024 < b
  · have d4 : decide (1024 < b) = true := decide_eq_true h4
    have hy := Lib.hid (hno.out (fun h => by have := (okI_iff b).1 h.2.2.1; omega))
    clear hno hcan hlong hyes hs
    go_enter Tryd.func7, Tryd.ntmps7
    go_wp2
    go_ret2
    exact ⟨by rw [hy.out.1, hy.out.2]; rfl, rfl⟩
  have hbok : okI b = true := (okI_iff b).2 (by omega)
  have hno2 : Hid (¬ okTo l n → N = 0 ∧ E = 1) := fun h => hno.out (fun h2 => h h2.2.2.2)
  have hcan2 : Hid (okTo l n → canB l b = true) := fun h => hcan.out ⟨by omega, by omega, hbok, h⟩
  obtain ⟨B, rfl⟩ := Int.eq_ofNat_of_zero_le (show 0 ≤ b by omega)
  have d3 : decide ((B : Int) < 0) = false := decide_eq_false (by omega)
  have d4 : decide (1024 < (B : Int)) = false := decide_eq_false h4
  have d4' : decide (1024 < B) = false := decide_eq_false (by omega)
  have hB9 : B ≤ 1024 := by omega
  have hn9 : n ≤ 1024 := by omega
  have hn2 : 2 ≤ n := by omega
  have hgre := Lib.hid (fun hok p hp => refGreater_any a n c l B p w hn hs hn9 hok hB9 hp)
  clear hno hcan hbok h1 h2 h3 h4 hs hn
  go_enter Tryd.func7, Tryd.ntmps7
  go_wp2_with fail
  go_loopw [6] (fun i wr => ∃ k : Nat, i = .int .i64 k ∧ k ≤ n ∧ Hid (okTo l k) ∧ w = wr) (fun i _ => n - (intOf i).toNat)
  case atStart => exact ⟨0, rfl, by omega, fun i hi => by omega, by first | trivial | rfl⟩
  case round =>
    obtain ⟨k, rfl, hk, ht, rfl⟩ := hrel
    by_cases hlt : k < n
    · obtain ⟨g, o, rfl, hcell⟩ := Hs.out (by rw [Hn.out]; omega)
      have q0 := hcell k (by rw [Hn.out]; exact hlt)
      have hst := Lib.hid (fun h => okTo_succ ht.out (k := k) h)
      have hbad : Hid (okI (ia l k) = false → N = 0 ∧ E = 1) := fun h => hno2.out (fun h2 => by have := h2 k hlt; rw [h] at this; cases this)
      have hoi := okI_iff (ia l k)
      generalize ia l k = y at *
      clear hcell ht hno2
      by_cases h1 : y < 0
      · have d5 : decide (y < 0) = true := decide_eq_true h1
        have hy := Lib.hid (hbad.out (by rw [← Bool.not_eq_true, hoi]; omega))
        clear hst hbad hcan2 hlong hyes hgre hoi
        go_wp2
        go_ret2
        exact ⟨by rw [hy.out.1, hy.out.2]; rfl, rfl⟩
      · have d5 : decide (y < 0) = false := decide_eq_false h1
        by_cases h2 : 1024 < y
        · have d6 : decide (1024 < y) = true := decide_eq_true h2
          have hy := Lib.hid (hbad.out (by rw [← Bool.not_eq_true, hoi]; omega))
          clear hst hbad hcan2 hlong hyes hgre hoi
          go_wp2
          go_ret2
          exact ⟨by rw [hy.out.1, hy.out.2]; rfl, rfl⟩
        · have d6 : decide (1024 < y) = false := decide_eq_false h2
          have hy := Lib.hid (hst.out (hoi.2 (by omega)))
          clear hst hbad hoi
          go_wp2
          go_roundw
          case rel => exact ⟨k + 1, by go_num, by omega, hy, trivial⟩
          case measure => simp [intOf]; omega
    · obtain rfl : k = n := by omega
      have hgr2 := Lib.hid (fun p hp => hgre.out ht.out p hp)
      have hc1 := hcan2.out ht.out
      have hlong2 := Lib.hid (hlong.out hc1)
      have hyes2 := Lib.hid (hyes.out hc1)
      clear hgre hcan2 hlong hyes hno2 hc1
      go_wp2_with fail
      go_loopw [7, 8] (fun u i wr => ∃ (m p : Nat), u = .int .i64 p ∧ i = .int .i64 m ∧ 2 ≤ m ∧ m ≤ k ∧ Hid (p = bst l (m - 2)) ∧ w = wr) (fun _ i _ => k - (intOf i).toNat)
      case atStart => exact ⟨2, 1, rfl, rfl, by omega, by omega, rfl, by first | trivial | rfl⟩
      case round =>
        obtain ⟨m, p, rfl, rfl, hm2, hmk, hp, rfl⟩ := hrel
        have hpr : p ≤ k := by rw [hp.out]; have := bst_range l (m - 2); omega
        by_cases hlt2 : m < k
        · have hst : Hid (bst l (m + 1 - 2) = if gr l m + (B : Int) < gr l p + (B : Int) then m else p) := by
            show _ = _
            obtain ⟨j, rfl⟩ : ∃ j, m = j + 2 := ⟨m - 2, by omega⟩
            have h1 := hp.out
            rw [Nat.add_sub_cancel] at h1
            rw [show j + 2 + 1 - 2 = j + 1 by omega, bst, ← h1]
            by_cases h2 : gr l (j + 2) < gr l p
            · rw [if_pos h2, if_pos (by omega)]
            · rw [if_neg h2, if_neg (by omega)]
          have g1 := Lib.hid (hgr2.out m (by omega))
          have g2 := Lib.hid (hgr2.out p hpr)
          generalize gr l m + (B : Int) = G1 at *
          generalize gr l p + (B : Int) = G2 at *
          clear hp
          go_wp2_with fail
          refine g1.out.mono ?_
          rintro e w' ⟨rfl, rfl⟩
          go_wp2_with fail
          refine g2.out.mono ?_
          rintro e w' ⟨rfl, rfl⟩
          clear g1 g2
          by_cases hd : G1 < G2
          · have d7 : decide (G1 < G2) = true := decide_eq_true hd
            have b2 : Hid (m = bst l (m + 1 - 2)) := by show _ = _; rw [hst.out, if_pos hd]
            clear hst
            go_wp2
            go_roundw
            case rel => exact ⟨m + 1, m, rfl, by go_num, by omega, by omega, b2, trivial⟩
            case measure => simp [intOf]; omega
          · have d7 : decide (G1 < G2) = false := decide_eq_false hd
            have b2 : Hid (p = bst l (m + 1 - 2)) := by show _ = _; rw [hst.out, if_neg hd]
            clear hst
            go_wp2
            go_roundw
            case rel => exact ⟨m + 1, p, rfl, by go_num, by omega, by omega, b2, trivial⟩
            case measure => simp [intOf]; omega
        · obtain rfl : m = k := by omega
          have g1 := Lib.hid (hgr2.out p hpr)
          rw [← hp.out] at hlong2 hyes2
          generalize gr l p + (B : Int) = G1 at *
          clear hp hgr2
          go_wp2_with fail
          refine g1.out.mono ?_
          rintro e w' ⟨rfl, rfl⟩
          clear g1
          by_cases hd : 504 < G1
          · have d7 : decide (504 < G1) = true := decide_eq_true hd
            have hy := Lib.hid (hlong2.out hd)
            clear hlong2 hyes2
            go_wp2
            go_ret2
            exact ⟨by rw [hy.out.1, hy.out.2]; rfl, rfl⟩
          · have d7 : decide (504 < G1) = false := decide_eq_false hd
            have hy := Lib.hid (hyes2.out (by omega))
            clear hlong2 hyes2
            go_wp2
            go_ret2
            exact ⟨by rw [hy.out.1, hy.out.2]; rfl, rfl⟩
end Go.Proofs.YtbgebjejgbcadaaDoor
