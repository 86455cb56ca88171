/-
  varint's Size.
-/
import Derived.Test.YtofbomcimicccaaDoorProg
import Derived.Test.YtofbomcimicccaaDoorMath1Z
import Derived.Test.YtofbomcimicccaaDoorLen
import Derived.WalkKit
import Derived.OwnWalk
import Derived.Laws.CopyOwn
import Derived.Below
import Derived.Lib.Hide
import Derived.Outline
import Derived.Lib.Zigzag
namespace Go.Proofs.YtofbomcimicccaaDoor
open Go.RowKit

theorem highest_pos (x : Nat) (w : World) (h0 : 0 < x) (hx : x < 18446744073709551616) : Calls Tryd.prog 57 #[.int .u64 x] w fun e w' => e = .returned (.int .i64 (Lib.bitLen x - 1 : Nat)) ∧ w = w' := by
  have hb := bitLen_top x h0 hx
  have b1 := hb.1
  have b2 := hb.2.1
  clear hb
  have e : (x : Int).toNat = x := rfl
  have hl := libLen x w (by omega) (by omega)
  rw [e] at hl
  have ec : ((Lib.bitLen x - 1 : Nat) : Int) = (Lib.bitLen x : Int) - 1 := by omega
  rw [ec]
  clear ec e
  generalize Lib.bitLen x = L at *
  go_enter Tryd.func57, Tryd.ntmps57
  go_wp2_with (go_at_call 60; refine hl.mono ?_; rintro e w' ⟨rfl, rfl⟩)
  go_ret
  exact ⟨rfl, rfl⟩
theorem or_one (v : Nat) (h : v < 18446744073709551616) : bits .or .u64 (v : Int) 1 = ((v / 2 * 2 + 1 : Nat) : Int) := by
  refine (bits_or_u64_nat v 1 h (by omega)).trans ?_
  congr 1
  apply Nat.eq_of_testBit_eq
  intro i
  rw [Nat.testBit_or, show v / 2 * 2 + 1 = 2 ^ 1 * (v / 2) + 1 by omega, Nat.testBit_two_pow_mul_add _ (by decide)]
  cases i with
  | zero => simp
  | succ i => simp [Nat.testBit_succ]
theorem size_any (v : Nat) (w : World) (h : v < 18446744073709551616) :
    Calls Tryd.prog 50 #[.int .u64 v] w fun e w' => e = .returned (.int .i64 (vs v : Nat)) ∧ w = w' := by
  have ho := or_one v h
  have hb := bitLen_top (v / 2 * 2 + 1) (by omega) (by omega)
  have hh := highest_pos (v / 2 * 2 + 1) w (by omega) (by omega)
  have hv := Lib.hid ((vs_odd v).symm.trans (vs_top _ _ hb.2.2))
  have b3 : Lib.bitLen (v / 2 * 2 + 1) - 1 ≤ 63 := by have := hb.2.1; omega
  clear hb
  generalize Lib.bitLen (v / 2 * 2 + 1) - 1 = L at *
  generalize v / 2 * 2 + 1 = O at *
  obtain ⟨Q, hQ⟩ : ∃ Q, Q = L / 7 := ⟨_, rfl⟩
  have eQ : (L : Int) / 7 = (Q : Int) := by omega
  have HQ := Lib.hid hQ
  have hq9 : Q ≤ 9 := by have := Nat.div_le_div_right (c := 7) b3; omega
  clear hQ
  go_enter Tryd.func50, Tryd.ntmps50
  go_wp2_with (go_at_call 57; refine hh.mono ?_; rintro e w' ⟨rfl, rfl⟩)
  go_ret
  exact ⟨by rw [hv.out, ← HQ.out]; rfl, rfl⟩
end Go.Proofs.YtofbomcimicccaaDoor
