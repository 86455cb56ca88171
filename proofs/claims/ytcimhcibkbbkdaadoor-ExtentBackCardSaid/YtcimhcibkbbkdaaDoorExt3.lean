/-
  extent's Page, Number.
-/
import Derived.Test.YtcimhcibkbbkdaaDoorExt2
namespace Go.Proofs.YtcimhcibkbbkdaaDoor
open Go Go.RowKit

theorem errC_2 : errC 2 = .iface 54 (.int .i64 2) := rfl
theorem errC_7 : errC 7 = .iface 54 (.int .i64 7) := rfl
set_option maxRecDepth 100000 in
theorem xpage_any (v : Value) (l : List Xt) (N : Int) (w : World) (hv : EV xtE w v l) (hl : l.length * 16 ≤ 140737488355328) (hr : ∀ x ∈ l, XOK x) (hN : N ≤ 9223372036854775807) :
    Calls Tryd.prog 8 #[v, .int .i64 N] w fun e w' => e = .returned (.tuple #[.int .i64 (xpgV l N), errC (xpgE l N)]) ∧ Below w.heap.size w w' := by
  have H1 := Lib.hid (xcheck_any v l 1024 w hv hl hr)
  obtain ⟨a, c, rfl, hs, hz, hc, hm⟩ := hv
  have Hs := Lib.hid hs
  obtain ⟨n, hn⟩ : ∃ n, l.length = n := ⟨_, rfl⟩
  have Hn := Lib.hid hn
  have hn9 : n ≤ 9223372036854775807 := by omega
  rw [hn] at H1 ⊢
  clear hs hr hz hc hm hn hl
  by_cases hb : xmayB l 1024 = true
  · rw [if_pos hb, errC_0] at H1
    have hM := Lib.hid ((xmayB_iff _ _).1 hb)
    by_cases h0 : N < 0
    · have e1 : xpgV l N = 0 := by unfold xpgV; rw [if_pos hb, if_pos h0]
      have e2 : xpgE l N = 2 := by unfold xpgE; rw [if_pos hb, if_pos h0]
      rw [e1, e2, errC_2]
      have d0 : decide (N < 0) = true := decide_eq_true h0
      clear e1 e2 hb
      go_enter Tryd.func8, Tryd.ntmps8
      go_wp2_with fail
      refine H1.out.mono ?_
      rintro e w1 ⟨rfl, hb1⟩
      have Hb1 := Lib.hid hb1
      clear hb1 H1
      go_wp2
      go_ret2
      exact ⟨rfl, Hb1.out⟩
    · have d0 : decide (N < 0) = false := decide_eq_false h0
      obtain ⟨R, hR⟩ : ∃ R, xpgF l N = R := ⟨_, rfl⟩
      have e1 : xpgV l N = R.getD 0 := by unfold xpgV; rw [if_pos hb, if_neg h0, hR]
      have e2 : xpgE l N = if R.isSome = true then 0 else 2 := by unfold xpgE; rw [if_pos hb, if_neg h0, hR]
      rw [e1, e2]
      have HR := Lib.hid hR
      have hN0 : 0 ≤ N := by omega
      clear e1 e2 hb hR h0
      go_enter Tryd.func8, Tryd.ntmps8
      go_wp2_with fail
      refine H1.out.mono ?_
      rintro e w1 ⟨rfl, hb1⟩
      have Hb1 := Lib.hid hb1
      clear hb1 H1
      go_wp2_with fail
      go_loopw [1, 17] (fun t i wr => ∃ (k : Nat) (A : Int), t = .int .i64 A ∧ i = .int .i64 k ∧ k ≤ n ∧ 0 ≤ A ∧ A ≤ 9223372036854775807 ∧ Hid (xpgF (l.drop k) A = R) ∧ Hid (Below w.heap.size w wr)) (fun _ i _ => n - (intOf i).toNat)
      case atStart => exact ⟨0, N, rfl, rfl, by omega, hN0, hN, HR.out, Hb1.out⟩
      case round =>
        obtain ⟨k, A, rfl, rfl, hk, hA, hA9, hAS, hB⟩ := hrel
        clear d0
        by_cases hlt : k < n
        · obtain ⟨g, o, rfl, hcell⟩ := (Hs.out.below hB.out (Nat.le_refl _)).xts (by rw [Hn.out]; omega)
          obtain ⟨q0, q1⟩ := hcell k (by rw [Hn.out]; exact hlt)
          have hx := hM.out.ins (xt l k) (xt_mem l k (by rw [Hn.out]; exact hlt))
          have hA2 := hAS.out
          rw [xt_drop l k (by rw [Hn.out]; exact hlt), xpgF] at hA2
          generalize xt l k = y at *
          obtain ⟨F, M⟩ := y
          obtain ⟨f1, f2, f3⟩ := hx
          dsimp only at q0 q1 f1 f2 f3 hA2
          have hB2 : Hid (Below w.heap.size w (wr.alloc (.cells #[.int .i64 F, .int .i64 M] XT))) := hB.out.alloc hB.out.size _
          by_cases h2 : A < M
          · have d2 : decide (A < M) = true := decide_eq_true h2
            rw [if_pos h2] at hA2
            subst hA2
            have hwz : IntKind.i64.wrap (F + A) = F + A := by rw [IntKind.wrap_i64]; omega
            clear hcell hAS hB HR
            go_wp2
            go_ret2
            exact ⟨rfl, hB2.out⟩
          · have d2 : decide (A < M) = false := decide_eq_false h2
            rw [if_neg h2] at hA2
            obtain ⟨Z, hZ⟩ : ∃ Z, A - M = Z := ⟨_, rfl⟩
            rw [hZ] at hA2
            have HA := Lib.hid hA2
            have hZ9 : 0 ≤ Z ∧ Z ≤ 9223372036854775807 := by omega
            have hwz : IntKind.i64.wrap (A - M) = Z := by rw [IntKind.wrap_i64]; omega
            clear hcell hAS hA2 hB hZ
            go_wp2
            go_roundw
            case rel => exact ⟨k + 1, Z, rfl, by go_num, by omega, hZ9.1, hZ9.2, HA, hB2⟩
            case measure => simp [intOf]; omega
        · obtain rfl : k = n := by omega
          have e1 : R = none := by have := hAS.out; rw [List.drop_of_length_le (by rw [Hn.out]; exact Nat.le_refl _)] at this; simpa [xpgF] using this.symm
          subst e1
          go_wp2
          go_ret2
          exact ⟨rfl, hB.out⟩
  · rw [if_neg hb, errC_1] at H1
    have e1 : xpgV l N = 0 := by unfold xpgV; rw [if_neg hb]
    have e2 : xpgE l N = 1 := by unfold xpgE; rw [if_neg hb]
    rw [e1, e2, errC_1]
    clear e1 e2 hb
    go_enter Tryd.func8, Tryd.ntmps8
    go_wp2_with fail
    refine H1.out.mono ?_
    rintro e w1 ⟨rfl, hb1⟩
    have Hb1 := Lib.hid hb1
    clear hb1 H1
    go_wp2
    go_ret2
    exact ⟨rfl, Hb1.out⟩
set_option maxRecDepth 100000 in
theorem xnumber_any (v : Value) (l : List Xt) (N : Int) (w : World) (hv : EV xtE w v l) (hl : l.length * 16 ≤ 140737488355328) (hr : ∀ x ∈ l, XOK x) :
    Calls Tryd.prog 10 #[v, .int .i64 N] w fun e w' => e = .returned (.tuple #[.int .i64 (xnuV l N), errC (xnuE l N)]) ∧ Below w.heap.size w w' := by
  have H1 := Lib.hid (xcheck_any v l 1024 w hv hl hr)
  obtain ⟨a, c, rfl, hs, hz, hc, hm⟩ := hv
  have Hs := Lib.hid hs
  obtain ⟨n, hn⟩ : ∃ n, l.length = n := ⟨_, rfl⟩
  have Hn := Lib.hid hn
  have hn9 : n ≤ 9223372036854775807 := by omega
  rw [hn] at H1 ⊢
  clear hs hr hz hc hm hn hl
  by_cases hb : xmayB l 1024 = true
  · rw [if_pos hb, errC_0] at H1
    have hM := Lib.hid ((xmayB_iff _ _).1 hb)
    have hS9 := Lib.hid hM.out.sum
    obtain ⟨R, hR⟩ : ∃ R, xnuF l 0 N = R := ⟨_, rfl⟩
    have e1 : xnuV l N = R.getD 0 := by unfold xnuV; rw [if_pos hb, hR]
    have e2 : xnuE l N = if R.isSome = true then 0 else 2 := by unfold xnuE; rw [if_pos hb, hR]
    rw [e1, e2]
    have HR := Lib.hid hR
    clear e1 e2 hb hR
    go_enter Tryd.func10, Tryd.ntmps10
    go_wp2_with fail
    refine H1.out.mono ?_
    rintro e w1 ⟨rfl, hb1⟩
    have Hb1 := Lib.hid hb1
    clear hb1 H1
    go_wp2_with fail
    go_loopw [6, 15] (fun t i wr => ∃ (k : Nat) (A : Int), t = .int .i64 A ∧ i = .int .i64 k ∧ k ≤ n ∧ 0 ≤ A ∧ Hid (A + xsumM (l.drop k) = xsumM l) ∧ Hid (xnuF (l.drop k) A N = R) ∧ Hid (Below w.heap.size w wr)) (fun _ i _ => n - (intOf i).toNat)
    case atStart => exact ⟨0, 0, rfl, rfl, by omega, by omega, by show _ = _; rw [List.drop_zero]; omega, HR.out, Hb1.out⟩
    case round =>
      obtain ⟨k, A, rfl, rfl, hk, hA, hSS, hAS, hB⟩ := hrel
      by_cases hlt : k < n
      · obtain ⟨g, o, rfl, hcell⟩ := (Hs.out.below hB.out (Nat.le_refl _)).xts (by rw [Hn.out]; omega)
        obtain ⟨q0, q1⟩ := hcell k (by rw [Hn.out]; exact hlt)
        have hx := hM.out.ins (xt l k) (xt_mem l k (by rw [Hn.out]; exact hlt))
        have hA2 := hAS.out
        rw [xt_drop l k (by rw [Hn.out]; exact hlt), xnuF] at hA2
        have hS2 := hSS.out
        rw [xt_drop l k (by rw [Hn.out]; exact hlt), xsumM] at hS2
        have hpos := xsumM_pos (l.drop (k + 1)) (fun x hx => by have := (hM.out.ins x (List.mem_of_mem_drop hx)).2.1; omega)
        generalize xt l k = y at *
        obtain ⟨F, M⟩ := y
        obtain ⟨f1, f2, f3⟩ := hx
        dsimp only at q0 q1 f1 f2 f3 hA2 hS2
        have hB2 : Hid (Below w.heap.size w (wr.alloc (.cells #[.int .i64 F, .int .i64 M] XT))) := hB.out.alloc hB.out.size _
        obtain ⟨Z, hZ⟩ : ∃ Z, A + M = Z := ⟨_, rfl⟩
        have hZ9 : 0 ≤ Z ∧ Z ≤ 1024 := by have := hS9.out; omega
        have hSZ : Hid (Z + xsumM (l.drop (k + 1)) = xsumM l) := by show _ = _; omega
        have hwz : IntKind.i64.wrap (A + M) = Z := by rw [IntKind.wrap_i64]; omega
        rw [hZ] at hA2
        have hA9 : A ≤ 1024 := by omega
        clear hpos hS2 hSS hAS hZ hcell hB
        by_cases h2 : F ≤ N
        · have d2 : decide (F ≤ N) = true := decide_eq_true h2
          have hend := fun w => xend_any F M w (by omega) (by omega)
          by_cases h3 : N < F + M
          · have d3 : decide (N < F + M) = true := decide_eq_true h3
            rw [if_pos ⟨h2, h3⟩] at hA2
            subst hA2
            have hwz1 : IntKind.i64.wrap (A + N) = A + N := by rw [IntKind.wrap_i64]; omega
            have hwz2 : IntKind.i64.wrap (A + N - F) = A + N - F := by rw [IntKind.wrap_i64]; omega
            generalize F + M = E at *
            clear HR
            go_wp2_with fail
            refine (hend _).mono ?_
            rintro e w2 ⟨rfl, hb2⟩
            have q9 : Hid ((wr.alloc (.cells #[.int .i64 F, .int .i64 M] XT)).cell? ⟨wr.heap.size, 0, none⟩ = some (.int .i64 F)) := by show _ = _; simp
            have q8 : w2.cell? ⟨wr.heap.size, 0, none⟩ = some (.int .i64 F) := by rw [hb2.cell (p := ⟨wr.heap.size, 0, none⟩) (by simp)]; exact q9.out
            have hB3 : Hid (Below w.heap.size w w2) := hB2.out.trans (hb2.mono hB2.out.size)
            clear hb2 hB2 q9 hend
            go_wp2
            go_ret2
            exact ⟨rfl, hB3.out⟩
          · have d3 : decide (N < F + M) = false := decide_eq_false h3
            rw [if_neg (fun h => h3 h.2)] at hA2
            have HA := Lib.hid hA2
            generalize F + M = E at *
            clear hA2 HR
            go_wp2_with fail
            refine (hend _).mono ?_
            rintro e w2 ⟨rfl, hb2⟩
            have q9 : Hid ((wr.alloc (.cells #[.int .i64 F, .int .i64 M] XT)).cell? ⟨wr.heap.size, 1, none⟩ = some (.int .i64 M)) := by show _ = _; simp
            have q8 : w2.cell? ⟨wr.heap.size, 1, none⟩ = some (.int .i64 M) := by rw [hb2.cell (p := ⟨wr.heap.size, 1, none⟩) (by simp)]; exact q9.out
            have hB3 : Hid (Below w.heap.size w w2) := hB2.out.trans (hb2.mono hB2.out.size)
            clear hb2 hB2 q9 hend
            go_wp2
            go_roundw
            case rel => exact ⟨k + 1, Z, rfl, by go_num, by omega, hZ9.1, hSZ, HA, hB3⟩
            case measure => simp [intOf]; omega
        · have d2 : decide (F ≤ N) = false := decide_eq_false h2
          rw [if_neg (fun h => h2 h.1)] at hA2
          have HA := Lib.hid hA2
          clear hA2 HR
          go_wp2
          go_roundw
          case rel => exact ⟨k + 1, Z, rfl, by go_num, by omega, hZ9.1, hSZ, HA, hB2⟩
          case measure => simp [intOf]; omega
      · obtain rfl : k = n := by omega
        have e1 : R = none := by have := hAS.out; rw [List.drop_of_length_le (by rw [Hn.out]; exact Nat.le_refl _)] at this; simpa [xnuF] using this.symm
        subst e1
        go_wp2
        go_ret2
        exact ⟨rfl, hB.out⟩
  · rw [if_neg hb, errC_1] at H1
    have e1 : xnuV l N = 0 := by unfold xnuV; rw [if_neg hb]
    have e2 : xnuE l N = 1 := by unfold xnuE; rw [if_neg hb]
    rw [e1, e2, errC_1]
    clear e1 e2 hb
    go_enter Tryd.func10, Tryd.ntmps10
    go_wp2_with fail
    refine H1.out.mono ?_
    rintro e w1 ⟨rfl, hb1⟩
    have Hb1 := Lib.hid hb1
    clear hb1 H1
    go_wp2
    go_ret2
    exact ⟨rfl, Hb1.out⟩
end Go.Proofs.YtcimhcibkbbkdaaDoor
