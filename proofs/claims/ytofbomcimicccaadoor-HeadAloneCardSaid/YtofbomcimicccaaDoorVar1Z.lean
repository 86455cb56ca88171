/-
  The calls of package varint, in plain numbers.
-/
import Derived.Test.YtofbomcimicccaaDoorProg
import Derived.Test.YtofbomcimicccaaDoorMath1Z
import Derived.Test.YtofbomcimicccaaDoorLen
import Derived.Test.YtofbomcimicccaaDoorVarSizeZ
import Derived.WalkKit
import Derived.OwnWalk
import Derived.Laws.CopyOwn
import Derived.Below
import Derived.Lib.Hide
import Derived.Outline
import Derived.Lib.Zigzag
namespace Go.Proofs.YtofbomcimicccaaDoor
open Go.RowKit

/-- How an error's number is answered. -/
def errV (f : Nat) : Value := if f = 0 then .nilIface else .iface 59 (.int .i64 f)
theorem errV_0 : errV 0 = .nilIface := rfl
theorem errV_2 : errV 2 = .iface 59 (.int .i64 2) := rfl
theorem errV_3 : errV 3 = .iface 59 (.int .i64 3) := rfl
theorem errV_6 : errV 6 = .iface 59 (.int .i64 6) := rfl
/-- What Get answers of these bytes. -/
def gotV (l : List Nat) : Value := .tuple #[.int .u64 ((gt l).1 : Nat), .int .i64 ((gt l).2.1 : Nat), errV (gt l).2.2]
theorem low7 (X : Nat) (h : X < 256) : bits .andNot .u8 (X : Int) 128 = ((X % 128 : Nat) : Int) := by
  refine (u8_andNot_nat X 128 h (by omega)).trans ?_
  rw [show 255 - 128 = 2 ^ 7 - 1 from rfl, Nat.and_two_pow_sub_one_eq_mod]
theorem pow7_le {k : Nat} (h : k ≤ 9) : (128 : Nat) ^ k ≤ 9223372036854775808 := by
  have := Nat.pow_le_pow_right (n := 128) (by decide) h; omega
theorem get_fit (k X V : Nat) (hk : k ≤ 9) (hV : V < 128 ^ k) (h1 : k = 9 → X ≤ 1) : X % 128 * 128 ^ k + V < 18446744073709551616 := by
  rcases Nat.lt_or_ge k 9 with h9 | h9
  · have hp : 128 ^ k ≤ 128 ^ 8 := Nat.pow_le_pow_right (by decide) (by omega)
    have : X % 128 * 128 ^ k ≤ 127 * 128 ^ k := Nat.mul_le_mul_right _ (by omega)
    omega
  · obtain rfl : k = 9 := by omega
    have := h1 rfl
    have : X % 128 * 128 ^ 9 ≤ 1 * 128 ^ 9 := Nat.mul_le_mul_right _ (by omega)
    omega
theorem pow7 (k : Nat) : (128 : Nat) ^ k = 2 ^ (7 * k) := by rw [Nat.pow_mul]
theorem get_shift (k T Y V : Nat) (hT : T = 7 * k) (hf : Y * 128 ^ k + V < 18446744073709551616) : IntKind.u64.wrap ((Y : Int) * 2 ^ T) = ((Y * 128 ^ k : Nat) : Int) := by
  subst hT
  have e : (2 : Int) ^ (7 * k) = ((128 ^ k : Nat) : Int) := by rw [pow7]; simp
  rw [e, ← Int.natCast_mul]
  generalize Y * 128 ^ k = Z at *
  rw [IntKind.wrap_u64]; omega
theorem get_or (k Y V : Nat) (hV : V < 128 ^ k) (hf : Y * 128 ^ k + V < 18446744073709551616) : bits .or .u64 (V : Int) ((Y * 128 ^ k : Nat) : Int) = ((V + Y * 128 ^ k : Nat) : Int) := by
  rw [bits_or_u64_nat _ _ (by omega) (by omega)]
  rw [pow7] at hV ⊢
  rw [Nat.or_comm, Nat.mul_comm, ← Nat.two_pow_add_eq_or_of_lt hV, Nat.add_comm]
set_option maxRecDepth 100000 in
theorem get_any (a : Option Addr) (c : Nat) (l : List Nat) (w : World) (hb : B8 l) (hl : l.length ≤ 9223372036854775807) (hsrc : Src w a l) :
    Calls Tryd.prog 41 #[.slice a l.length c] w fun e w' => e = .returned (gotV l) ∧ w = w' := by
  have Hs := Lib.hid hsrc
  clear hsrc
  go_enter Tryd.func41, Tryd.ntmps41
  go_wp2
  go_loop [5, 6, 7, 10] (fun v _ _ i => ∃ k : Nat, k ≤ l.length ∧ k ≤ lead l ∧ k ≤ 9 ∧ i = .int .i64 k ∧ v = .int .u64 (valR (l.take k) : Nat)) (fun _ _ _ i => l.length - (intOf i).toNat)
  case atStart => exact ⟨0, Nat.zero_le _, Nat.zero_le _, by omega, rfl, rfl⟩
  case round =>
    obtain ⟨k, hk, hkl, hk9, rfl, rfl⟩ := hrel
    have HK := Lib.hid hkl
    clear hkl
    by_cases hlt : k < l.length
    · obtain ⟨b, o, rfl, hc⟩ := Hs.out (by omega)
      have hcell := hc k hlt
      have hx := hb.get k
      clear hc
      have hstep := Lib.hid (valR_take_succ l k hlt)
      have hv := valR_take_lt l k
      obtain ⟨X, hX⟩ : ∃ X, X = l.getD k 0 := ⟨_, rfl⟩
      rw [← hX] at hcell hx hstep
      have HX := Lib.hid hX
      clear hX
      generalize valR (l.take k) = V at *
      have hp := pow7_le hk9
      have hlow := low7 X hx
      obtain ⟨Y, hY⟩ : ∃ Y, Y = X % 128 := ⟨_, rfl⟩
      rw [← hY] at hlow hstep
      obtain ⟨T, hT⟩ : ∃ T, T = 7 * k := ⟨_, rfl⟩
      have eT : (7 : Int) * (k : Int) = (T : Int) := by omega
      have hT63 : T ≤ 63 := by omega
      by_cases hA : k = 9 ∧ 1 < X
      · obtain ⟨rfl, hX1⟩ := hA
        have hg : Hid (gt l = (0, 0, 2)) := gt_range HK.out (by rw [← HX.out]; exact hX1)
        clear hY hT eT hT63 hv hp
        go_wp2
        all_goals (go_ret3; exact ⟨by unfold gotV; rw [hg.out]; rfl, rfl⟩)
      have hf := get_fit k X V hk9 hv (by omega)
      rw [← hY] at hf
      have hz := get_shift k T Y V hT hf
      have ho := get_or k Y V hv hf
      rw [← hstep.out] at ho
      have hY7 : Y < 128 := by omega
      have HY := Lib.hid (And.intro hY hT)
      clear hY hT hv hp hf hstep
      generalize Y * 128 ^ k = Z at *
      have hB : (((k : Int) == 9) = true ∧ decide (1 < (X : Int)) = false) ∨ ((k : Int) == 9) = false := by
        rcases Nat.lt_or_ge k 9 with h9 | h9
        · right; simp; omega
        · left; exact ⟨by simp; omega, by simp; omega⟩
      by_cases hC : 128 ≤ X
      · have hk8 : k < 9 := by omega
        have hn := lead_next HK.out hlt (by rw [← HX.out]; exact hC)
        obtain ⟨R, hR⟩ : ∃ R, R = valR (l.take (k + 1)) := ⟨_, rfl⟩
        rw [← hR] at ho
        have HR := Lib.hid hR
        clear hR hB
        go_wp2
        go_round
        case rel => exact ⟨k + 1, by omega, hn, by omega, by go_num, by rw [HR.out]⟩
        case measure => simp [intOf]; omega
      · have hX9 : k = 9 → X ≤ 1 := by omega
        by_cases hF : X = 0 ∧ 0 < k
        · obtain ⟨hX00, hk0⟩ := hF
          have hg : Hid (gt l = (0, 0, 3)) := gt_form HK.out hlt hk9 (HX.out.symm.trans hX00) hk0
          have hX0 : ((X : Int) == 0) = true := by simp; omega
          clear hX9 hX00
          generalize valR (l.take (k + 1)) = R at *
          rcases hB with ⟨hB, hD⟩ | hB
          all_goals (go_wp2; go_ret3; exact ⟨by unfold gotV; rw [hg.out]; rfl, rfl⟩)
        · have hg : Hid (gt l = (valR (l.take (k + 1)), k + 1, 0)) := gt_hit HK.out hlt hk9 (by rw [← HX.out]; omega) (by rw [← HX.out]; exact hX9) (by rw [← HX.out]; omega)
          generalize valR (l.take (k + 1)) = R at *
          by_cases h0 : X = 0
          · have hX0 : ((X : Int) == 0) = true := by simp; omega
            have hk0 : ¬ 0 < k := by omega
            have hB' : ((k : Int) == 9) = false := by simp; omega
            clear h0 hF hB
            (go_wp2; go_ret3; exact ⟨by unfold gotV; rw [hg.out]; rfl, rfl⟩)
          · have hX0 : ((X : Int) == 0) = false := by simp; omega
            clear h0 hF
            rcases hB with ⟨hB, hD⟩ | hB
            all_goals (go_wp2; go_ret3; exact ⟨by unfold gotV; rw [hg.out]; rfl, rfl⟩)
    · obtain rfl : k = l.length := by omega
      have hg : Hid (gt l = (0, 0, 6)) := gt_none HK.out rfl hk9
      generalize valR (l.take l.length) = R at *
      go_wp2
      all_goals (go_ret3; exact ⟨by unfold gotV; rw [hg.out]; rfl, rfl⟩)
end Go.Proofs.YtofbomcimicccaaDoor
