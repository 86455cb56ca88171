/-
  The document's Done.
-/
import Derived.Test.YtofbomcimicccaaDoorRefRdZ
namespace Go.Proofs.YtofbomcimicccaaDoor
open Go Go.RowKit

theorem refDone_any (w : World) (x : Value) (S : RS) (h : RfW w x S) :
    Calls Tryd.prog 30 #[x] w fun e w' => e = .returned (.bool (okS S)) ∧ Below w.heap.size w w' := by
  obtain ⟨v, rfl, h2⟩ := h.ex
  have hl := h.len
  obtain ⟨a, c, rfl, _⟩ := h2.arg
  obtain ⟨l, wr⟩ := S
  dsimp only at *
  clear h h2
  have hb : Hid (Below w.heap.size w (w.alloc (.cells #[.slice a l.length c, .bool wr] RFT))) := (Below.refl _ _).alloc (Nat.le_refl _) _
  cases wr with
  | true =>
    have e : Hid (okS ⟨l, true⟩ = false) := by show _ = _; unfold okS; simp
    generalize l.length = n at *
    go_enter Tryd.func30, Tryd.ntmps30
    go_wp2
    go_ret
    exact ⟨by rw [e.out]; rfl, hb.out⟩
  | false =>
    have e : Hid (okS ⟨l, false⟩ = decide (l.length = 0)) := by show _ = _; unfold okS; cases l <;> simp
    generalize l.length = n at *
    have d1 : ((n : Int) == 0) = decide (n = 0) := by rw [Bool.eq_iff_iff]; simp
    generalize decide (n = 0) = D at *
    go_enter Tryd.func30, Tryd.ntmps30
    go_wp2
    go_ret
    exact ⟨by rw [e.out]; rfl, hb.out⟩
end Go.Proofs.YtofbomcimicccaaDoor
