/-
  varint's Size.
  leaf's isInline, Size.
  branch's Size, of a slice that lies anywhere; no memory is made.
-/
import Derived.Test.YtbgkjniagedcnaaGreatDoorProg
import Derived.Test.YtbgkjniagedcnaaGreatDoorMath1Z
import Derived.Test.YtbgkjniagedcnaaGreatDoorLen
import Derived.WalkKit
import Derived.OwnWalk
import Derived.Laws.CopyOwn
import Derived.Below
import Derived.Lib.Hide
import Derived.Outline
import Derived.Lib.Zigzag
import Derived.Test.YtbgkjniagedcnaaGreatDoorKeysMathZ
import Derived.Test.YtbgkjniagedcnaaGreatDoorBranchMathZ
import Derived.Test.YtbgkjniagedcnaaGreatDoorTextsZ
namespace Go.Proofs.YtbgkjniagedcnaaGreatDoor
open Go.RowKit

theorem highest_pos (x : Nat) (w : World) (h0 : 0 < x) (hx : x < 18446744073709551616) : Calls Tryz.prog 85 #[.int .u64 x] w fun e w' => e = .returned (.int .i64 (Lib.bitLen x - 1 : Nat)) ∧ w = w' := by
  have hb := bitLen_top x h0 hx
  have b1 := hb.1
  have b2 := hb.2.1
  clear hb
  have e : (x : Int).toNat = x := rfl
  have hl := libLen x w (by omega) (by omega)
  rw [e] at hl
  have ec : ((Lib.bitLen x - 1 : Nat) : Int) = (Lib.bitLen x : Int) - 1 := by omega
  rw [ec]
  clear ec e
  generalize Lib.bitLen x = L at *
  go_enter Tryz.func85, Tryz.ntmps85
  go_wp2_with (go_at_call 92; refine hl.mono ?_; rintro e w' ⟨rfl, rfl⟩)
  go_ret
  exact ⟨rfl, rfl⟩
theorem or_one (v : Nat) (h : v < 18446744073709551616) : bits .or .u64 (v : Int) 1 = ((v / 2 * 2 + 1 : Nat) : Int) := by
  refine (bits_or_u64_nat v 1 h (by omega)).trans ?_
  congr 1
  apply Nat.eq_of_testBit_eq
  intro i
  rw [Nat.testBit_or, show v / 2 * 2 + 1 = 2 ^ 1 * (v / 2) + 1 by omega, Nat.testBit_two_pow_mul_add _ (by decide)]
  cases i with
  | zero => simp
  | succ i => simp [Nat.testBit_succ]
theorem size_any (v : Nat) (w : World) (h : v < 18446744073709551616) :
    Calls Tryz.prog 69 #[.int .u64 v] w fun e w' => e = .returned (.int .i64 (vs v : Nat)) ∧ w = w' := by
  have ho := or_one v h
  have hb := bitLen_top (v / 2 * 2 + 1) (by omega) (by omega)
  have hh := highest_pos (v / 2 * 2 + 1) w (by omega) (by omega)
  have hv := Lib.hid ((vs_odd v).symm.trans (vs_top _ _ hb.2.2))
  have b3 : Lib.bitLen (v / 2 * 2 + 1) - 1 ≤ 63 := by have := hb.2.1; omega
  clear hb
  generalize Lib.bitLen (v / 2 * 2 + 1) - 1 = L at *
  generalize v / 2 * 2 + 1 = O at *
  obtain ⟨Q, hQ⟩ : ∃ Q, Q = L / 7 := ⟨_, rfl⟩
  have eQ : (L : Int) / 7 = (Q : Int) := by omega
  have HQ := Lib.hid hQ
  have hq9 : Q ≤ 9 := by have := Nat.div_le_div_right (c := 7) b3; omega
  clear hQ
  go_enter Tryz.func69, Tryz.ntmps69
  go_wp2_with (go_at_call 85; refine hh.mono ?_; rintro e w' ⟨rfl, rfl⟩)
  go_ret
  exact ⟨by rw [hv.out, ← HQ.out]; rfl, rfl⟩
end Go.Proofs.YtbgkjniagedcnaaGreatDoor
namespace Go.Proofs.YtbgkjniagedcnaaGreatDoor
open Go Go.RowKit

theorem isIn_any (n : Int) (w : World) : Calls Tryz.prog 70 #[.int .i64 n] w fun e w' => e = .returned (.bool (decide (n ≤ 64))) ∧ w = w' := by
  generalize hD : decide (n ≤ 64) = D
  go_enter Tryz.func70, Tryz.ntmps70
  go_wp2
  go_ret
  exact ⟨rfl, rfl⟩
set_option maxRecDepth 100000 in
theorem leafSize_any (k : ByteArray) (n : Nat) (w : World) (hk : k.size ≤ 65536) (hn : n ≤ 65536) : Calls Tryz.prog 44 #[.string k, .int .i64 n] w fun e w' => e = .returned (.int .i64 (sizeS k n : Nat)) ∧ w = w' := by
  have h1 := size_any k.size w (by omega)
  have h2 := size_any n w (by omega)
  have v1 := vs_le (show k.size < 18446744073709551616 by omega)
  have v2 := vs_le (show n < 18446744073709551616 by omega)
  have hi := isIn_any n w
  have hmx : max (n : Int) 0 = (n : Int) := by omega
  have hS : Hid (sizeS k n = vs k.size + k.size + vs n + (if (n : Int) ≤ 64 then n else 2)) := by show _ = _; unfold sizeS; rw [show ((n : Int)).toNat = n from rfl]
  generalize sizeS k n = S at *
  generalize vs k.size = A at *
  generalize vs n = B at *
  by_cases h64 : (n : Int) ≤ 64
  · have d1 : decide ((n : Int) ≤ 64) = true := by simpa using h64
    rw [d1] at hi
    have hS2 : Hid (S = A + k.size + B + n) := by show _ = _; rw [hS.out, if_pos h64]
    clear hS d1
    go_enter Tryz.func44, Tryz.ntmps44
    go_wp2_with fail
    refine h1.mono ?_
    rintro e w' ⟨rfl, rfl⟩
    go_wp2_with fail
    refine h2.mono ?_
    rintro e w' ⟨rfl, rfl⟩
    go_wp2_with fail
    refine hi.mono ?_
    rintro e w' ⟨rfl, rfl⟩
    go_wp2
    go_ret
    exact ⟨by rw [hS2.out]; simp, rfl⟩
  · have d1 : decide ((n : Int) ≤ 64) = false := by simpa using h64
    rw [d1] at hi
    have hS2 : Hid (S = A + k.size + B + 2) := by show _ = _; rw [hS.out, if_neg h64]
    clear hS d1
    go_enter Tryz.func44, Tryz.ntmps44
    go_wp2_with fail
    refine h1.mono ?_
    rintro e w' ⟨rfl, rfl⟩
    go_wp2_with fail
    refine h2.mono ?_
    rintro e w' ⟨rfl, rfl⟩
    go_wp2_with fail
    refine hi.mono ?_
    rintro e w' ⟨rfl, rfl⟩
    go_wp2
    go_ret
    exact ⟨by rw [hS2.out]; simp, rfl⟩
end Go.Proofs.YtbgkjniagedcnaaGreatDoor
namespace Go.Proofs.YtbgkjniagedcnaaGreatDoor
open Go Go.RowKit

set_option maxRecDepth 100000 in
theorem brSizeW_any (a : Option Addr) (n c : Nat) (ks : List ByteArray) (w : World) (hn : ks.length = n) (hs : TxS w a ks) (hl : n ≤ 1000000) (hm : keysF ks) :
    Calls Tryz.prog 95 #[.slice a n c] w fun e w' => e = .returned (.int .i64 (sizeTo ks n : Nat)) ∧ w = w' := by
  have Hs := Lib.hid hs
  have Hn := Lib.hid hn
  have Hm := Lib.hid hm
  clear hs hn hm
  go_enter Tryz.func95, Tryz.ntmps95
  go_wp2_with fail
  go_loopw [3, 5, 8] (fun s _ i wr => ∃ k t : Nat, s = .int .i64 t ∧ i = .int .i64 k ∧ k ≤ n ∧ t ≤ 2 + 43 * k ∧ Hid (t = sizeTo ks k) ∧ w = wr) (fun _ _ i _ => n - (intOf i).toNat)
  case atStart => exact ⟨0, 2, rfl, rfl, by omega, by omega, rfl, by first | trivial | rfl⟩
  case round =>
    obtain ⟨k, t, rfl, rfl, hk, ht, hts, rfl⟩ := hrel
    by_cases hlt : k < n
    · obtain ⟨g, o, rfl, hcell⟩ := Hs.out (by rw [Hn.out]; omega)
      have q0 := hcell k (by rw [Hn.out]; exact hlt)
      have h1 := (okK_size (Hm.out k (by rw [Hn.out]; exact hlt)).1).2
      have h5 : Hid (t + (3 + (sa ks k).size) = sizeTo ks (k + 1)) := by show _ = _; rw [sizeTo, ← hts.out]
      generalize sa ks k = y at *
      clear hcell hts
      go_wp2
      go_roundw
      case rel => exact ⟨k + 1, t + (3 + y.size), by go_num, by go_num, by omega, by omega, h5, by first | trivial | rfl⟩
      case measure => simp [intOf]; omega
    · obtain rfl : k = n := by omega
      go_wp2
      go_ret
      exact ⟨by rw [← hts.out]; rfl, rfl⟩
end Go.Proofs.YtbgkjniagedcnaaGreatDoor
