/-
  math/bits.Len64: how many bits a number needs.
-/
import Derived.Test.YtbgkjniagedcnaaGreatDoorProg
import Derived.Lib.Strings
import Derived.Lib.Slices
import Derived.Lib.Small
import Derived.Lib.Walk
import Derived.Lib.BitFns
namespace Go.Proofs.YtbgkjniagedcnaaGreatDoor
theorem len_step (k : Nat) (x y : Int) (h0 : 0 ≤ x) (h1 : x ≤ 18446744073709551615) (hy : y = x / 2 ^ k % 256) (hk : k ≤ 56) (hlo : 2 ^ k ≤ x.toNat ∨ k = 0) (hhi : x / 2 ^ k < 256) :
    (k : Int) + Lib.len8 y = Lib.bitLen x.toNat ∧ 0 ≤ Lib.len8 y ∧ Lib.len8 y ≤ 8 := by
  have e : (2 : Int) ^ k = ((2 ^ k : Nat) : Int) := by simp
  obtain ⟨n, rfl⟩ := Int.eq_ofNat_of_zero_le h0
  have hp : 0 < 2 ^ k := Nat.pow_pos (by decide)
  rw [e, ← Int.natCast_ediv] at hy hhi
  have hs : Lib.bitLen n = k + Lib.bitLen (n / 2 ^ k) := by
    rcases hlo with h | h
    · exact Lib.bitLen_shift k n h (by omega)
    · subst h; simp
  generalize n / 2 ^ k = m at *
  have ey : y = (m : Int) := by omega
  subst ey
  have hl := Lib.bitLen_le8' (m : Int) (by omega) (by omega)
  rw [Lib.len8_of _ (by omega) (by omega)]
  simp only [Int.toNat_natCast] at hl ⊢
  omega
set_option maxHeartbeats 4000000 in
set_option maxRecDepth 100000 in
theorem libLen (x : Int) (w : World) (h0 : 0 ≤ x) (h1 : x ≤ 18446744073709551615) :
    Calls Tryz.prog 92 #[.int .u64 x] w fun e w' => e = .returned (.int .i64 (Lib.bitLen x.toNat)) ∧ w = w' := by
  go_enter Tryz.func92, Tryz.ntmps92
  go_wp2
  all_goals (go_ret; refine ⟨congrArg Ending.returned (congrArg (Value.int IntKind.i64) ?_), rfl⟩)
  all_goals first
    | (have s := len_step 56 x (x / 4294967296 / 65536 / 256 % 256) h0 h1 (by omega) (by omega) (Or.inl (by omega)) (by omega); omega)
    | (have s := len_step 48 x (x / 4294967296 / 65536 % 256) h0 h1 (by omega) (by omega) (Or.inl (by omega)) (by omega); omega)
    | (have s := len_step 40 x (x / 4294967296 / 256 % 256) h0 h1 (by omega) (by omega) (Or.inl (by omega)) (by omega); omega)
    | (have s := len_step 32 x (x / 4294967296 % 256) h0 h1 (by omega) (by omega) (Or.inl (by omega)) (by omega); omega)
    | (have s := len_step 24 x (x / 65536 / 256 % 256) h0 h1 (by omega) (by omega) (Or.inl (by omega)) (by omega); omega)
    | (have s := len_step 16 x (x / 65536 % 256) h0 h1 (by omega) (by omega) (Or.inl (by omega)) (by omega); omega)
    | (have s := len_step 8 x (x / 256 % 256) h0 h1 (by omega) (by omega) (Or.inl (by omega)) (by omega); omega)
    | (have s := len_step 0 x (x % 256) h0 h1 (by omega) (by omega) (Or.inr rfl) (by omega); omega)
end Go.Proofs.YtbgkjniagedcnaaGreatDoor

