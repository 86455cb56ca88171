/-
  Most of a tree's entries.
-/
import Derived.Test.YtbgkjniagedcnaaGreatDoorTreeZ
import Derived.Test.YtbgkjniagedcnaaGreatDoorChainMathZ
namespace Go.Proofs.YtbgkjniagedcnaaGreatDoor
open Go Go.RowKit

theorem may_tree {w : World} {p : Option Addr} {es : List En} {H : Nat} (h : TreeP w p es H) (hl : es.length ≤ 4096) : mayS es = true := mayS_yes h.facts.1 h.facts.2 hl
theorem most_tree {w : World} {p : Option Addr} {es : List En} {H : Nat} (h : TreeP w p es H) (hl : es.length ≤ 4096) : mosE es = 0 ∧ (∀ L B, CT0 H es L B → L + B + pgs es ≤ mosN es) ∧ mosN es ≤ 1000000 := by
  have h1 := may_tree h hl
  have hz := (szs_range h.facts.2).2
  have hp := pgs_le h.facts.2
  unfold mosN mosE
  rw [if_pos h1, if_pos h1]
  refine ⟨rfl, fun L B hc => ?_, by split <;> omega⟩
  by_cases h0 : es.length = 0
  · rw [if_pos h0]
    obtain rfl : es = [] := List.eq_nil_of_length_eq_zero h0
    have h4 := hc.2.2.2.1
    have h5 := hc.few
    have hH : H = 0 := by
      rcases Nat.eq_zero_or_pos H with h6 | h6
      · exact h6
      · exact absurd rfl (hc.2.2.2.2 h6)
    have := hc.1 hH
    rw [this.1, this.2.1]; simp [pgs]
  · rw [if_neg h0]
    have := hc.few
    omega
end Go.Proofs.YtbgkjniagedcnaaGreatDoor
