/-
  Layer 1's sure: some answers at numbers that are written out.
-/
import Derived.Test.YtjdkifjbbblioaaDoorNum
import Derived.Test.YtjdkifjbbblioaaDoorInts1
import Derived.Test.YtjdkifjbbblioaaDoorGet
namespace Go.Proofs.YtjdkifjbbblioaaDoor
open Go.RowKit

theorem TabIn.below {w w' : World} (h : TabIn w) (hb : Below w.heap.size w w') : TabIn w' := fun j hj => by
  have hc := h j hj
  have hlt : 1 < w.heap.size := by
    rcases Nat.lt_or_ge 1 w.heap.size with h1 | h1
    · exact h1
    · simp [World.cell?, Array.getElem?_eq_none h1] at hc
  rw [hb.cell (p := ⟨1, j, none⟩) hlt]; exact hc
theorem Hg.below {w w' : World} (h : Hg w) (hb : Below w.heap.size w w') : Hg w' := by
  have h' : w.cell? ⟨0, 0, none⟩ = some (.iface 66 (.agg #[.pointer (some ⟨2, 26, none⟩)])) := h
  have hlt : 0 < w.heap.size := by
    rcases Nat.lt_or_ge 0 w.heap.size with h1 | h1
    · exact h1
    · simp [World.cell?, Array.getElem?_eq_none h1] at h'
  show w'.cell? _ = _
  rw [hb.cell (p := ⟨0, 0, none⟩) hlt]; exact h'

theorem sure_signed (w : World) : Calls Tryd.prog 15 #[.int .u64 255, .int .i64 8] w fun e w' => e = .returned (.tuple #[.int .i64 (-1), .nilIface]) ∧ w = w' := by
  have h := signed_in 255 8 w (by decide) (by decide) (by decide)
  have e : sgn 255 8 = -1 := by decide
  rw [e] at h
  exact h
theorem sure_get (w : World) : Calls Tryd.prog 8 #[.slice (some ⟨w.heap.size, 0, none⟩) 2 2] (w.alloc (.cells #[.int .u8 1, .int .u8 2] 5)) fun e w' => e = .returned (.tuple #[.int .u64 258, .nilIface]) ∧ w.alloc (.cells #[.int .u8 1, .int .u8 2] 5) = w' := by
  have h := get_in w.heap.size 0 2 [1, 2] (w.alloc (.cells #[.int .u8 1, .int .u8 2] 5)) (by decide) (by decide) (fun i hi => by
    simp only [List.length_cons, List.length_nil] at hi
    match i, hi with
    | 0, _ => simp
    | 1, _ => simp) (by intro x hx; simp at hx; omega)
  exact h
theorem sure_up (w : World) : Calls Tryd.prog 17 #[.int .u64 9, .int .i64 3] w fun e w' => e = .returned (.tuple #[.int .u64 16, .nilIface]) ∧ w = w' := up_next 9 3 w (by decide) (by decide) (by decide) (by decide)
theorem sure_small (w : World) : Calls Tryd.prog 13 #[.int .i64 256, .int .i64 8] w fun e w' => e = .returned (.tuple #[.int .u64 0, .iface 47 (.int .i64 2)]) ∧ w = w' := small_range 256 8 w (by decide) (by decide) (by decide) (by decide)
theorem sure_ones (w : World) : Calls Tryd.prog 19 #[.int .u64 7] w fun e w' => e = .returned (.int .i64 3) ∧ w = w' := by
  have h := ones_any 7 w (by decide)
  have e : pop 7 = 3 := by decide
  rw [e] at h
  exact h
theorem sure_lowest (w : World) (hT : TabIn w) : Calls Tryd.prog 21 #[.int .u64 12] w fun e w' => e = .returned (.int .i64 2) ∧ w = w' := by
  have h := lowest_pos 12 w (by decide) (by decide) hT
  have e : Lib.ctzFrom 64 12 = 2 := by decide
  rw [e] at h
  exact h
theorem sure_highest (w : World) : Calls Tryd.prog 23 #[.int .u64 12] w fun e w' => e = .returned (.int .i64 3) ∧ w = w' := by
  have h := highest_pos 12 w (by decide) (by decide)
  have e : Lib.bitLen 12 = 4 := by decide
  rw [e] at h
  exact h
set_option maxHeartbeats 1000000 in
theorem sure_any (w : World) (hg : Hg w) (hT : TabIn w) : Calls Tryd.prog 7 #[] w fun e w' => e = .returned (.bool true) ∧ Below w.heap.size w w' := by
  have hbA : Below w.heap.size w (w.alloc (.cells #[.int .u8 1, .int .u8 2] 5)) := (Below.refl _ _).alloc (Nat.le_refl _) _
  have hgA := hg.below hbA
  have hTA := hT.below hbA
  go_enter Tryd.func7, Tryd.ntmps7
  go_wp2_with (first
    | (go_at_call 15; refine (sure_signed _).mono ?_; rintro e w' ⟨rfl, rfl⟩)
    | (go_at_call 8; refine (sure_get _).mono ?_; rintro e w' ⟨rfl, rfl⟩)
    | (go_at_call 17; refine (sure_up _).mono ?_; rintro e w' ⟨rfl, rfl⟩)
    | (go_at_call 13; refine (sure_small _).mono ?_; rintro e w' ⟨rfl, rfl⟩)
    | (go_at_call 12; refine (num_err 2 _ hgA).mono ?_; rintro e w1 ⟨rfl, hb1⟩; have hT1 := hTA.below hb1)
    | (go_at_call 19; refine (sure_ones _).mono ?_; rintro e w' ⟨rfl, rfl⟩)
    | (go_at_call 21; refine (sure_lowest _ hT1).mono ?_; rintro e w' ⟨rfl, rfl⟩)
    | (go_at_call_of 23 (Value.int .u64 12); refine (sure_highest _).mono ?_; rintro e w' ⟨rfl, rfl⟩)
    | (go_at_call 23; refine (highest_zero _).mono ?_; rintro e w' ⟨rfl, rfl⟩))
  go_ret
  exact ⟨rfl, hbA.trans (hb1.mono (by simp))⟩
end Go.Proofs.YtjdkifjbbblioaaDoor
