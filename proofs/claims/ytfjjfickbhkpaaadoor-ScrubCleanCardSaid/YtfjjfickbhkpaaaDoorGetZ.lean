/-
  ints.Get: the number of bytes.
-/
import Derived.Test.YtfjjfickbhkpaaaDoorProg
import Derived.Test.YtfjjfickbhkpaaaDoorMemZ
import Derived.WalkKit
import Derived.Below
import Derived.Lib.Hide
namespace Go.Proofs.YtfjjfickbhkpaaaDoor
open Go.RowKit

theorem get_arg (a : Option Addr) (n c : Nat) (w : World) (h : n < 1 ∨ 8 < n) :
    Calls Tryd.prog 32 #[.slice a n c] w fun e w' => e = .returned (.tuple #[.int .u64 0, .iface 61 (.int .i64 1)]) ∧ w = w' := by
  by_cases hn : n < 1
  · have h1 : decide ((n : Int) < 1) = true := by simp; omega
    clear h
    go_enter Tryd.func32, Tryd.ntmps32
    go_wp2
    go_ret2
    exact ⟨rfl, rfl⟩
  · have h1 : decide ((n : Int) < 1) = false := by simp; omega
    have h2 : decide (8 < (n : Int)) = true := by simp; omega
    clear h
    go_enter Tryd.func32, Tryd.ntmps32
    go_wp2
    go_ret2
    exact ⟨rfl, rfl⟩
theorem get_in (b o c : Nat) (l : List Nat) (w : World) (h1 : 1 ≤ l.length) (h8 : l.length ≤ 8) (hc : Cs w b o l) (hb : B8 l) :
    Calls Tryd.prog 32 #[.slice (some ⟨b, o, none⟩) l.length c] w fun e w' => e = .returned (.tuple #[.int .u64 (numL l), .nilIface]) ∧ w = w' := by
  have d1 : decide ((l.length : Int) < 1) = false := by simp; omega
  have d2 : decide (8 < (l.length : Int)) = false := by simp; omega
  have Hc := Lib.hid hc
  clear hc
  go_enter Tryd.func32, Tryd.ntmps32
  go_wp2
  go_loop [4, 6, 18] (fun v _ i => ∃ k : Nat, k ≤ l.length ∧ i = .int .i64 k ∧ v = .int .u64 (numL (l.take k))) (fun _ _ i => l.length - (intOf i).toNat)
  case atStart => exact ⟨0, Nat.zero_le _, rfl, rfl⟩
  case round =>
    obtain ⟨k, hk, rfl, rfl⟩ := hrel
    by_cases hlt : k < l.length
    · have hs := Lib.hid (numL_take_succ l k hlt)
      have hcell := Hc.out k hlt
      have hx := hb.get k
      have hv : numL (l.take k) < 72057594037927936 := by
        have := numL_lt (hb.take k)
        rw [List.length_take, Nat.min_eq_left hk] at this
        exact Nat.lt_of_lt_of_le this (pow256_le (by omega))
      have hor := Lib.hid (or_byte _ _ hv hx)
      generalize numL (l.take k) = V at *
      generalize l.getD k 0 = X at *
      go_wp2
      go_round
      case rel => exact ⟨k + 1, by omega, by go_num, by rw [hs.out, ← hor.out]⟩
      case measure => simp [intOf]; omega
    · obtain rfl : k = l.length := by omega
      have e : l.take l.length = l := List.take_length
      rw [e]
      clear e
      go_wp2
      go_ret2
      exact ⟨rfl, rfl⟩
end Go.Proofs.YtfjjfickbhkpaaaDoor
