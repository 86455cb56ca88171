/-
  The library's slices.Clone at bytes.
-/
import Derived.Test.YtofbomcimicccaaDoorProg
import Derived.Test.YtofbomcimicccaaDoorMemZ
import Derived.Test.YtofbomcimicccaaDoorByZ
import Derived.Test.YtofbomcimicccaaDoorRefVPutZ
import Derived.WalkKit
import Derived.Below
import Derived.Lib.Hide
import Derived.Lib.SliceRun
namespace Go.Proofs.YtofbomcimicccaaDoor
open Go Go.RowKit

set_option maxRecDepth 100000 in
theorem clone_any (a : Option Addr) (n c : Nat) (l : List Nat) (hn : l.length = n) (w : World) (hsrc : Src w a l) (hz : a = none → c = 0) (hl : n ≤ 1099511627776) :
    Calls Tryd.prog 40 #[.slice a n c] w fun e w' => ∃ v, e = .returned v ∧ Sl w' v l ∧ Below w.heap.size w w' := by
  have Hs := Lib.hid hsrc
  have Hn := Lib.hid hn
  have q22 : ∀ (w : World) (a : Option Addr) (n c n' c' : Nat), (binOp .eql 25 (.slice a n c) (.slice none n' c')).run Tryd.prog w = .ok (.bool a.isNone) w := fun w a n c n' c' => Lib.run_eql_slice_nil w _ _ a n c n' c' Tryd.underlying25
  cases a with
  | none =>
    obtain rfl : l = [] := by
      cases l with
      | nil => rfl
      | cons x r => obtain ⟨_, _, h0, _⟩ := hsrc (by simp); cases h0
    obtain rfl := hz rfl
    obtain rfl : n = 0 := hn.symm
    clear hsrc
    go_enter Tryd.func40, Tryd.ntmps40
    go_wp2
    go_ret
    exact ⟨_, rfl, .inl ⟨rfl, rfl⟩, Below.refl _ _⟩
  | some ad =>
    clear hsrc hn
    have hb1 : Below w.heap.size w (w.alloc (.cells #[] 5)) := (Below.refl _ _).alloc (Nat.le_refl _) _
    go_enter Tryd.func40, Tryd.ntmps40
    go_wp2_with (at_builtin; refine wpList_append_bytes rfl (.tmp 5) (.tmp 6) 25 rfl w.heap.size 5 Tryd.underlying25 infoB _ [] (by rfl) (own_empty w 5) (some ad) c l (by rw [Hn.out]; rfl) (fun h => by cases h) (Hs.out.below hb1 (Nat.le_refl _)) (by rw [Hn.out]; simp only [List.length_nil]; omega) hb1.size ?_; intro v' w2 hown2 hgrow2 hnear2)
    have hbn : Below w.heap.size w w2 := hb1.grown hgrow2.out hb1.size (by intro k hk; cases hk; exact Nat.le_refl _)
    have ho : Sl w2 v' l := Sl.own hown2.out
    go_ret
    exact ⟨_, rfl, ho, hbn⟩
end Go.Proofs.YtofbomcimicccaaDoor
