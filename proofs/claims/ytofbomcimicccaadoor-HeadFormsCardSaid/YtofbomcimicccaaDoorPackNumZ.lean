/-
  pack.Num.
-/
import Derived.Test.YtofbomcimicccaaDoorVarPutZ
import Derived.Test.YtofbomcimicccaaDoorRefVPutZ
import Derived.WalkKit
import Derived.Lib.Hide
namespace Go.Proofs.YtofbomcimicccaaDoor
open Go Go.RowKit

theorem packNum_any (a : Option Addr) (n c : Nat) (l : List Nat) (hn : l.length = n) (v : Nat) (w : World) (hs : Src w a l) (hl : n ≤ 65536) (hv : v < 18446744073709551616) :
    Calls Tryd.prog 18 #[.slice a n c, .int .u64 v] w fun e w' => ∃ v', e = .returned v' ∧ Sl w' v' (l ++ vb v) ∧ Below w.heap.size w w' := by
  subst hn
  have h := put_any a c l v w hl hv hs
  have h10 := vs_le hv
  have hlen : (l ++ vb v).length = l.length + vs v := by rw [List.length_append]; rfl
  have Hl := Lib.hid hlen
  clear hlen
  go_enter Tryd.func18, Tryd.ntmps18
  go_wp2_with fail
  refine h.mono ?_
  rintro e w' ⟨rfl, hr, hb⟩
  have hs := Sl.row hr (by rw [Hl.out]; unfold maxLen; omega)
  rw [Hl.out] at hs
  go_wp2
  go_ret
  exact ⟨_, rfl, hs, hb⟩
end Go.Proofs.YtofbomcimicccaaDoor
