/-
  tree's cellOf.
-/
import Derived.Test.YtbgkjniagedcnaaGreatDoorRootZ
namespace Go.Proofs.YtbgkjniagedcnaaGreatDoor
open Go Go.RowKit

theorem cellOf_any (key v : ByteArray) (w : World) :
    Calls Tryz.prog 38 #[.string key, .string v] w fun e w' => e = .returned (.agg #[.string key, .string v, nilS]) ∧ Below w.heap.size w w' := by
  go_enter Tryz.func38, Tryz.ntmps38
  go_wp2_with fail
  refine bodyPost_ret (v := .agg #[.string key, .string v, nilS]) (by rw [results_cell_one rfl]; go_simp) rfl ⟨rfl, ?_⟩
  exact (Below.refl _ _).alloc (Nat.le_refl _) _
/-- A literal of one such cell. -/
theorem cell_lit (w : World) (key v : ByteArray) : CS (w.alloc (.cells #[.string key, .string v, nilS] TCT)) (some ⟨w.heap.size, 0, none⟩) [⟨key, v, []⟩] :=
  ⟨[⟨key, v, none, 0, 0⟩], ES.lit (E := celE) (l := [⟨key, v, none, 0, 0⟩]) (heap_new w _ _), ⟨rfl, rfl, EV.none _⟩, trivial⟩
end Go.Proofs.YtbgkjniagedcnaaGreatDoor
