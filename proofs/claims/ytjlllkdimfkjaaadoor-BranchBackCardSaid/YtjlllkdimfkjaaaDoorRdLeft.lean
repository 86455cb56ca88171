/-
  A reader's Left.
-/
import Derived.Test.YtjlllkdimfkjaaaDoorRd2
namespace Go.Proofs.YtjlllkdimfkjaaaDoor
open Go Go.RowKit

theorem left_nil (w : World) : Calls Tryd.prog 22 #[.pointer none] w fun e w' => e = .returned (.int .i64 0) ∧ w = w' := by
  go_enter Tryd.func22, Tryd.ntmps22
  go_wp2
  go_ret
  exact ⟨rfl, rfl⟩
theorem left_any (w : World) (b : Nat) (S : RS) (h : Rd w b S) :
    Calls Tryd.prog 22 #[.pointer (some ⟨b, 0, none⟩)] w fun e w' => e = .returned (.int .i64 (S.l.length : Nat)) ∧ w = w' := by
  obtain ⟨v, h1, h2⟩ := h.ex
  have c0 := h1.c0
  have hl := h.len
  obtain ⟨a, c, rfl, _⟩ := h2.arg
  generalize S.l.length = n at *
  clear h h1 h2
  go_enter Tryd.func22, Tryd.ntmps22
  go_wp2
  go_ret
  exact ⟨rfl, rfl⟩
end Go.Proofs.YtjlllkdimfkjaaaDoor
