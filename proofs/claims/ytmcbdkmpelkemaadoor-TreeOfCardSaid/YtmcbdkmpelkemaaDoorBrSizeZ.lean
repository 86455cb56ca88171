/-
  branch's Size, of a slice that lies anywhere; no memory is made.
-/
import Derived.Test.YtmcbdkmpelkemaaDoorBranchMathZ
import Derived.Test.YtmcbdkmpelkemaaDoorTextsZ
import Derived.WalkKit
import Derived.Below
import Derived.Lib.Hide
namespace Go.Proofs.YtmcbdkmpelkemaaDoor
open Go Go.RowKit

set_option maxRecDepth 100000 in
theorem brSizeW_any (a : Option Addr) (n c : Nat) (ks : List ByteArray) (w : World) (hn : ks.length = n) (hs : TxS w a ks) (hl : n ≤ 1000000) (hm : keysF ks) :
    Calls Tryd.prog 57 #[.slice a n c] w fun e w' => e = .returned (.int .i64 (sizeTo ks n : Nat)) ∧ w = w' := by
  have Hs := Lib.hid hs
  have Hn := Lib.hid hn
  have Hm := Lib.hid hm
  clear hs hn hm
  go_enter Tryd.func57, Tryd.ntmps57
  go_wp2_with fail
  go_loopw [3, 5, 8] (fun s _ i wr => ∃ k t : Nat, s = .int .i64 t ∧ i = .int .i64 k ∧ k ≤ n ∧ t ≤ 2 + 43 * k ∧ Hid (t = sizeTo ks k) ∧ w = wr) (fun _ _ i _ => n - (intOf i).toNat)
  case atStart => exact ⟨0, 2, rfl, rfl, by omega, by omega, rfl, by first | trivial | rfl⟩
  case round =>
    obtain ⟨k, t, rfl, rfl, hk, ht, hts, rfl⟩ := hrel
    by_cases hlt : k < n
    · obtain ⟨g, o, rfl, hcell⟩ := Hs.out (by rw [Hn.out]; omega)
      have q0 := hcell k (by rw [Hn.out]; exact hlt)
      have h1 := (okK_size (Hm.out k (by rw [Hn.out]; exact hlt)).1).2
      have h5 : Hid (t + (3 + (sa ks k).size) = sizeTo ks (k + 1)) := by show _ = _; rw [sizeTo, ← hts.out]
      generalize sa ks k = y at *
      clear hcell hts
      go_wp2
      go_roundw
      case rel => exact ⟨k + 1, t + (3 + y.size), by go_num, by go_num, by omega, by omega, h5, by first | trivial | rfl⟩
      case measure => simp [intOf]; omega
    · obtain rfl : k = n := by omega
      go_wp2
      go_ret
      exact ⟨by rw [← hts.out]; rfl, rfl⟩
end Go.Proofs.YtmcbdkmpelkemaaDoor
