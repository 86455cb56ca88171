/-
  The laws' own num: an error's number.
-/
import Derived.Test.YtdgcghknfhhkiaaDoorAs
namespace Go.Proofs.YtdgcghknfhhkiaaDoor
open Go.RowKit

theorem num_nil (w : World) : Calls Tryd.prog 15 #[.nilIface] w fun e w' => e = .returned (.int .i64 0) ∧ Below w.heap.size w w' := by
  go_enter Tryd.func15, Tryd.ntmps15
  go_wp2
  go_ret
  exact ⟨rfl, (Below.refl _ _).alloc (Nat.le_refl _) _⟩
theorem hg_alloc {w : World} (h : Hg w) (o : Obj) : Hg (w.alloc o) := by
  have h' : w.cell? ⟨0, 0, none⟩ = some (.iface 92 (.agg #[.pointer (some ⟨1, 33, none⟩)])) := h
  have hlt : 0 < w.heap.size := by
    rcases Nat.lt_or_ge 0 w.heap.size with h1 | h1
    · exact h1
    · simp [World.cell?, Array.getElem?_eq_none h1] at h'
  show (w.alloc o).cell? _ = _
  rw [World.cell?_alloc_lt _ _ ⟨0, 0, none⟩ hlt]; exact h'
set_option maxHeartbeats 1000000 in
theorem num_err (n : Int) (w : World) (hg : Hg w) : Calls Tryd.prog 15 #[.iface 67 (.int .i64 n)] w fun e w' => e = .returned (.int .i64 n) ∧ Below w.heap.size w w' := by
  have hgA := hg_alloc hg (.cells #[.int .i64 0] 67)
  have htA : (w.alloc (.cells #[.int .i64 0] 67)).cell? ⟨w.heap.size, 0, none⟩ = some (.int .i64 0) := by simp
  have hfA : (w.alloc (.cells #[.int .i64 0] 67)).frozen? ⟨w.heap.size, 0, none⟩ = false := by simp
  go_enter Tryd.func15, Tryd.ntmps15
  go_wp2_with (go_at_call 27; refine (as_hit n _ (.int .i64 0) _ hgA htA hfA).mono ?_; rintro e w' ⟨rfl, rfl⟩)
  go_ret
  refine ⟨rfl, ?_⟩
  exact (((((Below.refl _ _).alloc (Nat.le_refl _) _).alloc (by simp) _).alloc (by simp; omega) _).alloc (by simp; omega) _).alloc (by simp; omega) _
theorem Hg.below {w w' : World} (h : Hg w) (hb : Below w.heap.size w w') : Hg w' := by
  have h' : w.cell? ⟨0, 0, none⟩ = some (.iface 92 (.agg #[.pointer (some ⟨1, 33, none⟩)])) := h
  have hlt : 0 < w.heap.size := by
    rcases Nat.lt_or_ge 0 w.heap.size with h1 | h1
    · exact h1
    · simp [World.cell?, Array.getElem?_eq_none h1] at h'
  show w'.cell? _ = _
  rw [hb.cell (p := ⟨0, 0, none⟩) hlt]; exact h'
end Go.Proofs.YtdgcghknfhhkiaaDoor
