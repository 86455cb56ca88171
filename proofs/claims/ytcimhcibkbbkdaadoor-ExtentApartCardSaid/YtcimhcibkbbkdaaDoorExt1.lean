/-
  extent's end, within, apart.
-/
import Derived.Test.YtcimhcibkbbkdaaDoorExtMem
namespace Go.Proofs.YtcimhcibkbbkdaaDoor
open Go Go.RowKit

/-- A stretch of two ints. -/
def XOK (x : Xt) : Prop := -9223372036854775808 ≤ x.f ∧ x.f ≤ 9223372036854775807 ∧ -9223372036854775808 ≤ x.m ∧ x.m ≤ 9223372036854775807
theorem xok_in {p : Int} {x : Xt} (h : XInP p x) (hp : p ≤ 1024) : XOK x := by
  obtain ⟨h1, h2, h3⟩ := h
  exact ⟨by omega, by omega, by omega, by omega⟩
set_option maxRecDepth 100000 in
theorem xend_any (F M : Int) (w : World) (h1 : -9223372036854775808 ≤ F + M) (h2 : F + M ≤ 9223372036854775807) :
    Calls Tryd.prog 22 #[.agg #[.int .i64 F, .int .i64 M]] w fun e w' => e = .returned (.int .i64 (F + M)) ∧ Below w.heap.size w w' := by
  have hw : IntKind.i64.wrap (F + M) = F + M := by rw [IntKind.wrap_i64]; omega
  go_enter Tryd.func22, Tryd.ntmps22
  go_wp2
  go_ret
  exact ⟨rfl, (Below.refl _ _).alloc (Nat.le_refl _) _⟩
set_option maxRecDepth 100000 in
theorem xwithin_any (a : Option Addr) (n c : Nat) (l : List Xt) (p : Int) (w : World) (hn : l.length = n) (hs : ES xtE w a l) (hl : n ≤ 9223372036854775807) (hr : ∀ x ∈ l, XOK x) (hp1 : 1 ≤ p) (hp2 : p ≤ 1024) :
    Calls Tryd.prog 27 #[.slice a n c, .int .i64 p] w fun e w' => e = .returned (.bool (l.all (xinB p))) ∧ Below w.heap.size w w' := by
  have Hs := Lib.hid hs
  have Hn := Lib.hid hn
  have Hr := Lib.hid hr
  obtain ⟨R, hR⟩ : ∃ R, l.all (xinB p) = R := ⟨_, rfl⟩
  rw [hR]
  have HR := Lib.hid hR
  clear hs hn hr hR
  go_enter Tryd.func27, Tryd.ntmps27
  go_wp2_with fail
  go_loopw [9] (fun i wr => ∃ k : Nat, i = .int .i64 k ∧ k ≤ n ∧ Hid ((l.drop k).all (xinB p) = R) ∧ Hid (Below w.heap.size w wr)) (fun i _ => n - (intOf i).toNat)
  case atStart => exact ⟨0, rfl, by omega, HR.out, Below.refl _ _⟩
  case round =>
    obtain ⟨k, rfl, hk, hA, hB⟩ := hrel
    by_cases hlt : k < n
    · obtain ⟨g, o, rfl, hcell⟩ := (Hs.out.below hB.out (Nat.le_refl _)).xts (by rw [Hn.out]; omega)
      obtain ⟨q0, q1⟩ := hcell k (by rw [Hn.out]; exact hlt)
      have hx := Hr.out (xt l k) (xt_mem l k (by rw [Hn.out]; exact hlt))
      have hA2 := hA.out
      rw [xt_drop l k (by rw [Hn.out]; exact hlt), List.all_cons] at hA2
      generalize xt l k = y at *
      obtain ⟨F, M⟩ := y
      have hF : (-9223372036854775808 ≤ F ∧ F ≤ 9223372036854775807) := ⟨hx.1, hx.2.1⟩
      dsimp only at q0 q1
      have hB2 : Hid (Below w.heap.size w (wr.alloc (.cells #[.int .i64 F, .int .i64 M] XT))) := hB.out.alloc hB.out.size _
      have hin : xinB p ⟨F, M⟩ = (decide (0 ≤ F) && decide (1 ≤ M) && decide (M ≤ p - F)) := rfl
      rw [hin] at hA2
      have HA := Lib.hid hA2
      clear hcell hx hA hA2 hin hB
      by_cases h1 : F < 0
      · have d1 : decide (F < 0) = true := decide_eq_true h1
        have e1 : R = false := by have := HA.out; rw [decide_eq_false (show ¬ 0 ≤ F by omega)] at this; simpa using this.symm
        clear HA
        subst e1
        go_wp2
        go_ret
        exact ⟨rfl, hB2.out⟩
      · have d1 : decide (F < 0) = false := decide_eq_false h1
        by_cases h2 : M < 1
        · have d2 : decide (M < 1) = true := decide_eq_true h2
          have e1 : R = false := by have := HA.out; rw [decide_eq_false (show ¬ 1 ≤ M by omega)] at this; simpa using this.symm
          clear HA
          subst e1
          go_wp2
          go_ret
          exact ⟨rfl, hB2.out⟩
        · have d2 : decide (M < 1) = false := decide_eq_false h2
          have w1 : IntKind.i64.wrap (p - F) = p - F := by rw [IntKind.wrap_i64]; omega
          by_cases h3 : p - F < M
          · have d3 : decide (p - F < M) = true := decide_eq_true h3
            have e1 : R = false := by have := HA.out; rw [decide_eq_false (show ¬ M ≤ p - F by omega)] at this; simpa using this.symm
            clear HA
            subst e1
            go_wp2
            go_ret
            exact ⟨rfl, hB2.out⟩
          · have d3 : decide (p - F < M) = false := decide_eq_false h3
            have e1 : Hid ((l.drop (k + 1)).all (xinB p) = R) := by
              show _ = _
              have := HA.out
              rw [decide_eq_true (show 0 ≤ F by omega), decide_eq_true (show 1 ≤ M by omega), decide_eq_true (show M ≤ p - F by omega)] at this
              simpa using this
            clear HA
            go_wp2
            go_roundw
            case rel => exact ⟨k + 1, by go_num, by omega, e1, hB2⟩
            case measure => simp [intOf]; omega
    · obtain rfl : k = n := by omega
      have e1 : R = true := by have := hA.out; rw [List.drop_of_length_le (by rw [Hn.out]; exact Nat.le_refl _)] at this; simpa using this.symm
      subst e1
      go_wp2
      go_ret
      exact ⟨rfl, hB.out⟩
set_option maxRecDepth 100000 in
theorem xapart_any (a : Option Addr) (n c : Nat) (l : List Xt) (w : World) (hn : l.length = n) (hs : ES xtE w a l) (hl : n ≤ 9223372036854775807) (hr : ∀ x ∈ l, XInP 1024 x) :
    Calls Tryd.prog 28 #[.slice a n c] w fun e w' => e = .returned (.bool (xapF 0 l)) ∧ Below w.heap.size w w' := by
  have Hs := Lib.hid hs
  have Hn := Lib.hid hn
  have Hr := Lib.hid hr
  obtain ⟨R, hR⟩ : ∃ R, xapF 0 l = R := ⟨_, rfl⟩
  rw [hR]
  have HR := Lib.hid hR
  clear hs hn hr hR
  go_enter Tryd.func28, Tryd.ntmps28
  go_wp2_with fail
  go_loopw [3, 8] (fun t i wr => ∃ (k : Nat) (A : Int), t = .int .i64 A ∧ i = .int .i64 k ∧ k ≤ n ∧ Hid (xapF A (l.drop k) = R) ∧ Hid (Below w.heap.size w wr)) (fun _ i _ => n - (intOf i).toNat)
  case atStart => exact ⟨0, 0, rfl, rfl, by omega, HR.out, Below.refl _ _⟩
  case round =>
    obtain ⟨k, A, rfl, rfl, hk, hA, hB⟩ := hrel
    by_cases hlt : k < n
    · obtain ⟨g, o, rfl, hcell⟩ := (Hs.out.below hB.out (Nat.le_refl _)).xts (by rw [Hn.out]; omega)
      obtain ⟨q0, q1⟩ := hcell k (by rw [Hn.out]; exact hlt)
      have hx := Hr.out (xt l k) (xt_mem l k (by rw [Hn.out]; exact hlt))
      have hA2 := hA.out
      rw [xt_drop l k (by rw [Hn.out]; exact hlt), xapF] at hA2
      generalize xt l k = y at *
      obtain ⟨F, M⟩ := y
      obtain ⟨f1, f2, f3⟩ := hx
      dsimp only at q0 q1 f1 f2 f3 hA2
      have hB2 : Hid (Below w.heap.size w (wr.alloc (.cells #[.int .i64 F, .int .i64 M] XT))) := hB.out.alloc hB.out.size _
      have HA := Lib.hid hA2
      clear hcell hA hA2 hB
      by_cases h1 : F < A
      · have d1 : decide (F < A) = true := decide_eq_true h1
        have e1 : R = false := by have := HA.out; rw [d1] at this; simpa using this.symm
        clear HA
        subst e1
        go_wp2
        go_ret
        exact ⟨rfl, hB2.out⟩
      · have d1 : decide (F < A) = false := decide_eq_false h1
        have e1 : Hid (xapF (F + M) (l.drop (k + 1)) = R) := by
          show _ = _
          have := HA.out
          rw [d1] at this
          simpa using this
        clear HA
        have hend := fun w => xend_any F M w (by omega) (by omega)
        generalize F + M = Z at *
        go_wp2_with fail
        refine (hend _).mono ?_
        rintro e w2 ⟨rfl, hb2⟩
        have hB3 : Hid (Below w.heap.size w w2) := hB2.out.trans (hb2.mono hB2.out.size)
        clear hb2 hB2
        go_wp2
        go_roundw
        case rel => exact ⟨k + 1, Z, rfl, by go_num, by omega, e1, hB3⟩
        case measure => simp [intOf]; omega
    · obtain rfl : k = n := by omega
      have e1 : R = true := by have := hA.out; rw [List.drop_of_length_le (by rw [Hn.out]; exact Nat.le_refl _)] at this; simpa [xapF] using this.symm
      subst e1
      go_wp2
      go_ret
      exact ⟨rfl, hB.out⟩
end Go.Proofs.YtcimhcibkbbkdaaDoor
