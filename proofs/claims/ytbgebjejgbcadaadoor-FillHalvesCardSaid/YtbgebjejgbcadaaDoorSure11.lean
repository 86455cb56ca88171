/-
  Layer 11's sure.
-/
import Derived.Test.YtbgebjejgbcadaaDoorFill2
namespace Go.Proofs.YtbgebjejgbcadaaDoor
open Go Go.RowKit

abbrev CINT : TypeId := 3
theorem pg_new (w : World) (E : TypeId) (l : List Int) : PgS (w.alloc (.cells (iv l).toArray E)) (some ⟨w.heap.size, 0, none⟩) l := fun h0 => by
  refine ⟨w.heap.size, 0, rfl, fun i hi => ?_⟩
  have h := iv_get l i hi
  simp only [World.cell?, Nat.zero_add]
  rw [show (w.alloc (.cells (iv l).toArray E)).heap[w.heap.size]? = some (.cells (iv l).toArray E (0, 0)) by show (w.heap.push _)[w.heap.size]? = _; rw [Array.getElem?_push_size]]
  simpa using h
/-- Split of a literal's new row. -/
theorem split_new (l : List Int) (N E : Int) (w : World) (hl : l.length ≤ 3) (h1 : spN l 0 = N) (h2 : spE l 0 = E) :
    Calls Tryd.prog 6 #[.slice (some ⟨w.heap.size, 0, none⟩) l.length l.length, .int .i64 0] (w.alloc (.cells (iv l).toArray CINT)) fun e w' => e = .returned (.tuple #[.int .i64 N, errC E]) ∧ Below w.heap.size w w' := by
  refine (split_any (some ⟨w.heap.size, 0, none⟩) l.length l.length l 0 _ rfl (pg_new w CINT l) (Nat.le_refl _) (by unfold maxLen; omega)).mono ?_
  rintro e w' ⟨rfl, rfl⟩
  exact ⟨by rw [h1, h2], (Below.refl _ _).alloc (Nat.le_refl _) _⟩
theorem split_100 (w : World) : Calls Tryd.prog 6 #[.slice (some ⟨w.heap.size, 0, none⟩) 3 3, .int .i64 0] (w.alloc (.cells #[.int .i64 100, .int .i64 100, .int .i64 300] CINT)) fun e w' => e = .returned (.tuple #[.int .i64 2, .nilIface]) ∧ Below w.heap.size w w' :=
  split_new [100, 100, 300] 2 0 w (by decide) (by decide +kernel) (by decide +kernel)
theorem split_600 (w : World) : Calls Tryd.prog 6 #[.slice (some ⟨w.heap.size, 0, none⟩) 2 2, .int .i64 0] (w.alloc (.cells #[.int .i64 600, .int .i64 1] CINT)) fun e w' => e = .returned (.tuple #[.int .i64 0, .iface 37 (.int .i64 5)]) ∧ Below w.heap.size w w' :=
  split_new [600, 1] 0 5 w (by decide) (by decide +kernel) (by decide +kernel)
theorem split_1 (w : World) : Calls Tryd.prog 6 #[.slice (some ⟨w.heap.size, 0, none⟩) 1 1, .int .i64 0] (w.alloc (.cells #[.int .i64 1] CINT)) fun e w' => e = .returned (.tuple #[.int .i64 0, .iface 37 (.int .i64 1)]) ∧ Below w.heap.size w w' :=
  split_new [1] 0 1 w (by decide) (by decide +kernel) (by decide +kernel)
theorem most_252 (w : World) : Calls Tryd.prog 8 #[.int .i64 252] w fun e w' => e = .returned (.tuple #[.int .i64 3, .nilIface]) ∧ w = w' := most_any 252 w
set_option maxRecDepth 100000 in
set_option maxHeartbeats 1000000 in
theorem sure_any (w : World) (hg : Hg w) : Calls Tryd.prog 5 #[] w fun e w' => e = .returned (.bool true) ∧ Below w.heap.size w w' := by
  have HG := Lib.hid hg
  clear hg
  go_enter Tryd.func5, Tryd.ntmps5
  go_wp2_with fail
  refine (split_100 w).mono ?_
  rintro e w1 ⟨rfl, hb1⟩
  have Hb1 := Lib.hid hb1
  clear hb1
  go_wp2_with fail
  refine (split_600 w1).mono ?_
  rintro e w2 ⟨rfl, hb2⟩
  have Hb2 := Lib.hid (Hb1.out.trans (hb2.mono Hb1.out.size))
  clear hb2 Hb1
  go_wp2_with fail
  refine (split_1 w2).mono ?_
  rintro e w3 ⟨rfl, hb3⟩
  have Hb3 := Lib.hid (Hb2.out.trans (hb3.mono Hb2.out.size))
  clear hb3 Hb2
  go_wp2_with fail
  refine (most_252 w3).mono ?_
  rintro e w4 ⟨rfl, rfl⟩
  go_wp2_with fail
  refine (num_err 5 w3 (HG.out.below Hb3.out)).mono ?_
  rintro e w5 ⟨rfl, hb5⟩
  have Hb5 := Lib.hid (Hb3.out.trans (hb5.mono Hb3.out.size))
  clear hb5 Hb3
  go_wp2_with fail
  refine (num_err 1 w5 (HG.out.below Hb5.out)).mono ?_
  rintro e w6 ⟨rfl, hb6⟩
  have Hb6 := Lib.hid (Hb5.out.trans (hb6.mono Hb5.out.size))
  clear hb6 Hb5
  go_wp2_with fail
  refine (enough_any 126 w6).mono ?_
  rintro e w7 ⟨rfl, rfl⟩
  go_wp2_with fail
  refine (enough_any 125 w6).mono ?_
  rintro e w7 ⟨rfl, rfl⟩
  go_wp2_with fail
  refine (fits_any 504 w6).mono ?_
  rintro e w7 ⟨rfl, rfl⟩
  rw [show fiB 504 = true from rfl]
  go_wp2_with fail
  refine (fits_any 505 w6).mono ?_
  rintro e w7 ⟨rfl, rfl⟩
  rw [show fiB 505 = false from rfl]
  go_wp2
  go_ret
  exact ⟨rfl, Hb6.out⟩
end Go.Proofs.YtbgebjejgbcadaaDoor
