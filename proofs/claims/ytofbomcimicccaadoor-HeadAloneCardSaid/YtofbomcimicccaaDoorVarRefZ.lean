/-
  The document's Get, Zig and Zag.
-/
import Derived.Test.YtofbomcimicccaaDoorVar1Z
namespace Go.Proofs.YtofbomcimicccaaDoor
open Go.RowKit

theorem valR_drop (l : List Nat) (j : Nat) (h : j < l.length) : valR (l.drop j) = l.getD j 0 % 128 + 128 * valR (l.drop (j + 1)) := by
  rw [List.drop_eq_getElem_cons h, valR]
  simp [List.getD, h]
theorem valR_drop_le (l : List Nat) (j : Nat) : valR (l.drop j) ≤ valR l := by
  induction l generalizing j with
  | nil => simp
  | cons x r ih =>
    cases j with
    | zero => exact Nat.le_refl _
    | succ j => rw [List.drop_succ_cons, valR]; have := ih j; omega
/-- What the document's Get answers of these bytes. -/
def refV (l : List Nat) : Value := .tuple #[.int .u64 ((gt l).1 : Nat), .int .i64 ((gt l).2.1 : Nat), .int .i64 ((gt l).2.2 : Nat)]
set_option maxRecDepth 100000 in
set_option maxHeartbeats 1000000 in
theorem refGet_any (a : Option Addr) (c : Nat) (l : List Nat) (w : World) (hb : B8 l) (hl : l.length ≤ 9223372036854775807) (hsrc : Src w a l) :
    Calls Tryd.prog 45 #[.slice a l.length c] w fun e w' => e = .returned (refV l) ∧ w = w' := by
  have Hs := Lib.hid hsrc
  clear hsrc
  go_enter Tryd.func45, Tryd.ntmps45
  go_wp2
  go_loop [5] (fun i => ∃ k : Nat, k ≤ l.length ∧ k ≤ 10 ∧ Hid (k ≤ lead l) ∧ i = .int .i64 k) (fun i => l.length - (intOf i).toNat)
  case atStart => exact ⟨0, Nat.zero_le _, by omega, Nat.zero_le _, rfl⟩
  case round =>
    obtain ⟨k, hk, hk10, hkl, rfl⟩ := hrel
    by_cases hlt : k < l.length
    · obtain ⟨b, o, rfl, hc⟩ := Hs.out (by omega)
      have hcell := hc k hlt
      have hx := hb.get k
      have Hc := Lib.hid hc
      clear hc
      obtain ⟨X, hX⟩ : ∃ X, X = l.getD k 0 := ⟨_, rfl⟩
      rw [← hX] at hcell hx
      have HX := Lib.hid hX
      clear hX
      by_cases h10 : k = 10
      · subst h10
        have hg : Hid (gt l = (0, 0, 2)) := gt_range (Nat.le_of_lt hkl.out) (by have := lead_ge l 9 hkl.out; omega)
        go_wp2
        go_ret3
        exact ⟨by unfold refV; rw [hg.out]; rfl, rfl⟩
      have hk9 : k ≤ 9 := by omega
      clear hk10 h10
      by_cases hC : 128 ≤ X
      · have hn : Hid (k + 1 ≤ lead l) := lead_next hkl.out hlt (by rw [← HX.out]; exact hC)
        go_wp2
        go_round
        case rel => exact ⟨k + 1, by omega, by omega, hn, by go_num⟩
        case measure => simp [intOf]; omega
      · by_cases hA : k = 9 ∧ 1 < X
        · obtain ⟨rfl, hX1⟩ := hA
          have hg : Hid (gt l = (0, 0, 2)) := gt_range hkl.out (by rw [← HX.out]; exact hX1)
          go_wp2
          go_ret3
          exact ⟨by unfold refV; rw [hg.out]; rfl, rfl⟩
        · have hB : (((k : Int) == 9) = true ∧ decide (1 < (X : Int)) = false ∧ 9 < l.length ∧ w.cell? ⟨b, o + 9, none⟩ = some (.int .u8 X)) ∨ ((k : Int) == 9) = false := by
            rcases Nat.lt_or_ge k 9 with h9 | h9
            · right; simp; omega
            · left
              obtain rfl : k = 9 := by omega
              exact ⟨rfl, by simp; omega, by omega, hcell⟩
          have hX9 : k = 9 → X ≤ 1 := by omega
          by_cases hF : X = 0 ∧ 0 < k
          · obtain ⟨hX00, hk0⟩ := hF
            have hg : Hid (gt l = (0, 0, 3)) := gt_form hkl.out hlt hk9 (HX.out.symm.trans hX00) hk0
            have hX0 : ((X : Int) == 0) = true := by simp; omega
            clear hX9 hX00 hA
            rcases hB with ⟨hB, hD, hE, hE9⟩ | hB
            · go_wp2
              all_goals (go_ret3; exact ⟨by unfold refV; rw [hg.out]; rfl, rfl⟩)
            · go_wp2
              all_goals (go_ret3; exact ⟨by unfold refV; rw [hg.out]; rfl, rfl⟩)
          · have hg : Hid (gt l = (valR (l.take (k + 1)), k + 1, 0)) := gt_hit hkl.out hlt hk9 (by rw [← HX.out]; omega) (by rw [← HX.out]; exact hX9) (by rw [← HX.out]; omega)
            have hv : Hid (valR (l.take (k + 1)) < 18446744073709551616) := by have := gt_val_lt l; rw [hg.out] at this; exact this
            have hZ : ((X : Int) == 0) = false ∨ k = 0 := by
              rcases Nat.eq_zero_or_pos k with h0 | h0
              · exact .inr h0
              · left; simp; omega
            have hlen : Hid ((l.take (k + 1)).length = k + 1) := by show _ = _; rw [List.length_take]; omega
            have hget : Hid (∀ j, j < k + 1 → (l.take (k + 1)).getD j 0 = l.getD j 0) := fun j hj => by simp [List.getD, hj]
            obtain ⟨L, hL⟩ : ∃ L, L = l.take (k + 1) := ⟨_, rfl⟩
            rw [← hL] at hlen hget hv
            have HL := Lib.hid hL
            clear hX9 hF hL hA
            have hfin : Hid (∀ (V : Nat), V = valR (L.drop 0) → Value.tuple #[.int .u64 (V : Nat), .int .i64 ((k : Int) + 1), .int .i64 0] = refV l) := fun V hV => by
              unfold refV; rw [hg.out, hV, List.drop_zero, HL.out]; rfl
            have loop : Hid (∀ j, j < k + 1 → valR (L.drop j) = L.getD j 0 % 128 + 128 * valR (L.drop (j + 1)) ∧ valR (L.drop j) < 18446744073709551616 ∧ w.cell? ⟨b, o + j, none⟩ = some (.int .u8 ((L.getD j 0 : Nat) : Int)) ∧ L.getD j 0 < 256) := fun j hj => by
              refine ⟨valR_drop L j (by rw [hlen.out]; exact hj), Nat.lt_of_le_of_lt (valR_drop_le L j) hv.out, ?_, ?_⟩
              · rw [hget.out j hj]; exact Hc.out j (by omega)
              · rw [hget.out j hj]; exact hb.get j
            have h0 : Hid (valR (L.drop (k + 1)) = 0) := by show _ = _; rw [List.drop_of_length_le (by rw [hlen.out]; exact Nat.le_refl _)]; rfl
            have hcase : (((k : Int) == 9) = true ∧ decide (1 < (X : Int)) = false ∧ 9 < l.length ∧ w.cell? ⟨b, o + 9, none⟩ = some (.int .u8 X) ∧ ((X : Int) == 0) = false ∧ 0 < k) ∨ (((k : Int) == 9) = false ∧ ((X : Int) == 0) = false ∧ 0 < k) ∨ (((k : Int) == 9) = false ∧ ¬ 0 < k) := by
              rcases hB with ⟨hB, hD, hE, hE9⟩ | hB
              · left
                have h9 : (k : Int) = 9 := by simpa using hB
                refine ⟨hB, hD, hE, hE9, ?_, by omega⟩
                rcases hZ with h | h
                · exact h
                · omega
              · right
                by_cases h0 : 0 < k
                · left
                  rcases hZ with h | h
                  · exact ⟨hB, h, h0⟩
                  · omega
                · exact .inr ⟨hB, h0⟩
            clear hB hZ
            rcases hcase with ⟨hB, hD, hE, hE9, hZ, hZ0⟩ | ⟨hB, hZ, hZ0⟩ | ⟨hB, hZ0⟩
            all_goals
              go_wp2
              go_loop [6, 7] (fun V I => ∃ (m : Nat) (i : Int), m ≤ k + 1 ∧ I = .int .i64 i ∧ i + 1 ≤ m ∧ (m : Int) ≤ i + 1 ∧ V = .int .u64 (valR (L.drop m) : Nat)) (fun _ I => (intOf I + 1).toNat)
              case atStart => exact ⟨k + 1, k, Nat.le_refl _, rfl, by omega, by omega, by rw [h0.out]; rfl⟩
              case round =>
                obtain ⟨m, i, hm, rfl, hi1, hi2, rfl⟩ := hrel
                by_cases hm0 : 0 < m
                · obtain ⟨j, rfl⟩ : ∃ j, m = j + 1 := ⟨m - 1, by omega⟩
                  obtain rfl : i = (j : Int) := by omega
                  obtain ⟨q1, q2, q3, q4⟩ := loop.out j (by omega)
                  have hjl : j < l.length := by omega
                  rw [q1] at q2
                  generalize L.getD j 0 = A at *
                  generalize valR (L.drop (j + 1)) = V at *
                  obtain ⟨Y, hY⟩ : ∃ Y, Y = A % 128 := ⟨_, rfl⟩
                  have eY : (A : Int) % 128 = (Y : Int) := by omega
                  obtain ⟨W, hW⟩ : ∃ W, W = 128 * V := ⟨_, rfl⟩
                  have eW : 128 * (V : Int) = (W : Int) := by omega
                  have hWl : W < 18446744073709551616 := by omega
                  obtain ⟨R, hR⟩ : ∃ R, R = W + Y := ⟨_, rfl⟩
                  have eR : (W : Int) + (Y : Int) = (R : Int) := by omega
                  have hRl : R < 18446744073709551616 := by omega
                  have HR := Lib.hid (show valR (L.drop j) = R by rw [q1]; omega)
                  clear q1 q2 hY hW hR
                  go_wp2
                  go_round
                  case rel => exact ⟨j, (j : Int) - 1, by omega, rfl, by omega, by omega, by rw [HR.out]⟩
                  case measure => simp [intOf]
                · obtain rfl : m = 0 := by omega
                  have hf := hfin.out _ rfl
                  generalize valR (L.drop 0) = V at *
                  have Hf := Lib.hid hf
                  clear hf
                  go_wp2
                  go_ret3
                  exact ⟨by rw [← Hf.out]; rfl, rfl⟩
    · obtain rfl : k = l.length := by omega
      by_cases h10 : l.length = 10
      · obtain ⟨b, o, rfl, hc⟩ := Hs.out (by omega)
        have hcell := hc 9 (by omega)
        have hx := hb.get 9
        have hX1 := lead_ge l 9 (by have := hkl.out; omega)
        have hg : Hid (gt l = (0, 0, 2)) := gt_range (by have := hkl.out; omega) (by omega)
        clear hc hX1
        generalize l.getD 9 0 = X at *
        generalize l.length = n at *
        subst h10
        go_wp2
        go_ret3
        exact ⟨by unfold refV; rw [hg.out]; rfl, rfl⟩
      · have hg : Hid (gt l = (0, 0, 6)) := gt_none hkl.out rfl (by omega)
        have hlen : l.length ≤ 9 := by omega
        clear h10 hk10 hk hlt
        go_wp2
        all_goals (go_ret3; exact ⟨by unfold refV; rw [hg.out]; rfl, rfl⟩)
end Go.Proofs.YtofbomcimicccaaDoor
