/-
  The library's slices.Grow (of nothing), slices.Concat, at cells, pointers and texts.
-/
import Derived.Test.YtbgkjniagedcnaaGreatDoorNodeZ
import Derived.Test.YtbgkjniagedcnaaGreatDoorTurnZ
import Derived.WalkKit
import Derived.Below
import Derived.Lib.Hide
import Derived.Lib.AppendZerosOnto
import Derived.Lib.SliceRun
namespace Go.Proofs.YtbgkjniagedcnaaGreatDoor
open Go Go.RowKit

/-- The cells of a row are slices that read as these lists. -/
def PartsE {α : Type} (E : Elt α) (w : World) (g : Nat) (es : List (List α)) : Prop := ∀ i, i < es.length → ∃ a c, w.cell? ⟨g, i, none⟩ = some (.slice a (es.getD i []).length c) ∧ ES E w a (es.getD i []) ∧ (a = none → c = 0)
section
variable {α : Type} {E : Elt α}
theorem PartsE.below {w w' : World} {g B : Nat} {es : List (List α)} (h : PartsE E w g es) (hb : Below B w w') (hB : w.heap.size ≤ B) : PartsE E w' g es := fun i hi => by
  obtain ⟨a, c, hc, hs, hz⟩ := h i hi
  exact ⟨a, c, by rw [hb.cell (p := ⟨g, i, none⟩) (Nat.lt_of_lt_of_le (block_lt_of_cell hc) hB)]; exact hc, hs.below hb hB, hz⟩
/-- How many the first k are. -/
def catE (es : List (List α)) (k : Nat) : Nat := (es.take k).flatten.length
theorem cat_succE (es : List (List α)) (k : Nat) (h : k < es.length) : (es.take (k + 1)).flatten = (es.take k).flatten ++ es.getD k [] := by
  rw [List.take_succ_eq_append_getElem h, List.flatten_append]
  simp [List.getD, h]
theorem catE_succ (es : List (List α)) (k : Nat) (h : k < es.length) : catE es (k + 1) = catE es k + (es.getD k []).length := by
  unfold catE; rw [cat_succE es k h, List.length_append]
theorem catE_all (es : List (List α)) (k : Nat) (h : es.length ≤ k) : catE es k = es.flatten.length := by unfold catE; rw [List.take_of_length_le h]
theorem catE_le (es : List (List α)) (k : Nat) : catE es k ≤ es.flatten.length := by
  unfold catE
  have h := congrArg List.length (congrArg List.flatten (List.take_append_drop k es))
  rw [List.flatten_append, List.length_append] at h
  omega
end
set_option maxRecDepth 100000 in
theorem growE_nil (n : Nat) (w : World) (hn : n ≤ 1099511627776) :
    Calls Tryz.prog 101 #[.slice none 0 0, .int .i64 n] w fun e w' => ∃ v, e = .returned v ∧ w'.ownsRow w.heap.size 94 (celE).sz v 0 ((celE).row []) ∧ Below w.heap.size w w' := by
  rcases Nat.eq_zero_or_pos n with h0 | h0
  · subst h0
    go_enter Tryz.func101, Tryz.ntmps101
    go_wp2
    go_ret
    exact ⟨_, rfl, World.ownsRow_nil _ _ _ _, Below.refl _ _⟩
  · obtain ⟨i0, hi, hz0, hz1, hz2⟩ := info_parts infoTC
    have hold : (Builtin.firstCells i0.size 0 (.slice none 0 0)).run Tryz.prog w.drew = .ok ([] : List Value).toArray w.drew := run_firstCells_none w.drew i0.size 0 0 0
    have hrun := fun ty => Lib.run_append_grow_zeros w 75 3 ty 94 i0 (celE).zero .i64 .i64 Tryz.underlying75 Tryz.underlying3 hi hz0 none 0 0 [] hold n h0 (by rw [hz1]; exact (celE).pos) (by omega) (by omega)
      (by rw [hz2]; show n * 56 ≤ _; omega) (growslice_fits (by omega) (by rw [hz2]; show _ * 56 ≤ _; omega))
    have hG1 : n ≤ grownCap w (0 + n) 0 94 := by have := grownCap_ge w (0 + n) 0 94; omega
    have hG2 := grownCap_le_maxLen w (0 + n) 0 94 (by unfold maxLen; omega)
    generalize grownCap w (0 + n) 0 94 = G at *
    have hG3 : G ≤ 9223372036854775807 := by unfold maxLen at hG2; omega
    rw [Nat.zero_add] at hrun
    obtain ⟨w1, hw1⟩ : ∃ w1, w1 = w.drew.alloc (.cells (([] : List Value).toArray ++ Builtin.zeroCells (celE).zero.cells n ++ Builtin.zeroCells (celE).zero.cells (G - n)) 94) := ⟨_, rfl⟩
    have hown : w1.ownsRow w.heap.size 94 (celE).sz (.slice (some ⟨w.heap.size, 0, none⟩) 0 G) 0 ((celE).row []) := by
      rw [hw1]
      exact World.ownsRow_made w.drew _ G (Nat.le_refl _) hG2 (by
        rw [Array.size_append, Array.size_append, size_zeroCells, size_zeroCells, (celE).zc]
        show 0 + n * 3 + (G - n) * 3 = G * 3
        omega)
    have hb : Below w.heap.size w w1 := by rw [hw1]; exact (Below.refl _ _).drew.alloc (Nat.le_refl _) _
    rw [← hw1] at hrun
    have Hown := Lib.hid hown
    have Hb := Lib.hid hb
    clear hold hw1 hown hb hG2 hi hz0 hz1 hz2
    go_enter Tryz.func101, Tryz.ntmps101
    go_wp2_with (at_builtin; refine Lib.wpList_append_run _ rfl _ _ _ _ rfl _ _ rfl rfl _ _ (hrun _) ?_)
    all_goals (go_ret; exact ⟨_, rfl, Hown.out, Hb.out⟩)
set_option maxRecDepth 100000 in
theorem concatE_any (g n c : Nat) (es : List (List Rw)) (hn : es.length = n) (w : World) (hp : PartsE celE w g es) (hl : es.flatten.length ≤ 1000000) (hk : n ≤ 65536) :
    Calls Tryz.prog 96 #[.slice (some ⟨g, 0, none⟩) n c] w fun e w' => ∃ v, e = .returned v ∧ EV celE w' v es.flatten ∧ Below w.heap.size w w' := by
  have Hp := Lib.hid hp
  have Hn := Lib.hid hn
  have Hl := Lib.hid hl
  clear hp hn hl
  go_enter Tryz.func96, Tryz.ntmps96
  go_wp2_with fail
  go_loop [3, 5, 11] (fun s _ i => ∃ k t : Nat, k ≤ n ∧ i = .int .i64 k ∧ s = .int .i64 t ∧ Hid (t = catE es k) ∧ t ≤ 1000000) (fun _ _ i => n - (intOf i).toNat)
  case atStart => exact ⟨0, 0, Nat.zero_le _, rfl, rfl, rfl, by omega⟩
  case round =>
    obtain ⟨k, t, hkn, rfl, rfl, ht, ht1⟩ := hrel
    by_cases hlt : k < n
    · obtain ⟨a, c1, hc, _, _⟩ := Hp.out k (by rw [Hn.out]; exact hlt)
      have hs := catE_succ es k (by rw [Hn.out]; exact hlt)
      have hle := catE_le es (k + 1)
      have hll := Hl.out
      generalize (es.getD k []).length = m at *
      have hm : t + m ≤ 1000000 := by have := ht.out; omega
      have ht2 : Hid (t + m = catE es (k + 1)) := by show _ = _; rw [hs, ht.out]
      have hd : decide ((t : Int) + (m : Int) < 0) = false := by simp; omega
      clear hs hle hll ht
      go_wp2
      go_round
      case rel => exact ⟨k + 1, t + m, by omega, by go_num, by go_num, ht2, hm⟩
      case measure => simp [intOf]; omega
    · obtain rfl : k = n := by omega
      have ht2 : Hid (t = es.flatten.length) := by show _ = _; rw [ht.out, catE_all es k (by rw [Hn.out]; exact Nat.le_refl _)]
      clear ht hlt
      go_wp2_with fail
      refine (growE_nil t w (by omega)).mono ?_
      rintro e w1 ⟨v1, rfl, hown1, hb1⟩
      have Ho1 := Lib.hid hown1
      have Hb1 := Lib.hid hb1
      clear hown1 hb1
      go_wp2_with fail
      go_loopw [6, 8, 27] (fun o _ i wr => ∃ (k2 : Nat) (ov : Value), k2 ≤ k ∧ o = ov ∧ i = .int .i64 k2 ∧ Hid (wr.ownsRow w.heap.size 94 (celE).sz ov (es.take k2).flatten.length ((celE).row (es.take k2).flatten)) ∧ Hid (Below w.heap.size w wr)) (fun _ _ i _ => k - (intOf i).toNat)
      case atStart => exact ⟨0, v1, Nat.zero_le _, rfl, rfl, by rw [List.take_zero]; exact Ho1, Hb1⟩
      case round =>
        obtain ⟨j, ov, hj, rfl, rfl, hown, hbel⟩ := hrel
        by_cases hlt : j < k
        · obtain ⟨a, c1, hc, hs, hz⟩ := (Hp.out.below hbel.out (Nat.le_refl _)) j (by rw [Hn.out]; exact hlt)
          have hcat := cat_succE es j (by rw [Hn.out]; exact hlt)
          have hlen : (es.take j).flatten.length + (es.getD j []).length ≤ 1000000 := by
            have h1 := catE_le es (j + 1)
            rw [catE_succ es j (by rw [Hn.out]; exact hlt)] at h1
            have h2 := Hl.out
            unfold catE at h1
            omega
          have hsz := hbel.out.size
          obtain ⟨v', w2, hrun, hb2, ho2⟩ := run_app_own (P := Tryz.prog) (E := celE) w.heap.size 75 75 94 Tryz.underlying75 infoTC _ (es.take j).flatten.length (es.take j).flatten hown.out hsz a (es.getD j []).length c1 (es.getD j []) rfl hz hs (by unfold maxLen; omega) (by show _ * 56 ≤ _; omega)
          have Hb2 := Lib.hid (hbel.out.trans hb2)
          have Ho2 : Hid (w2.ownsRow w.heap.size 94 (celE).sz v' (es.take (j + 1)).flatten.length ((celE).row (es.take (j + 1)).flatten)) := by rw [hcat, List.length_append]; exact ho2
          clear hs hz hcat hlen hsz hb2 ho2 hown hbel
          generalize (es.getD j []).length = M at *
          go_wp2_with (at_builtin; refine Lib.wpList_append_run _ rfl (.tmp 31) (.tmp 32) _ _ rfl _ _ (by rfl) (by rfl) _ _ hrun ?_)
          go_wp2
          go_roundw
          case rel => exact ⟨j + 1, v', by omega, rfl, by go_num, Ho2, Hb2⟩
          case measure => simp [intOf]; omega
        · obtain rfl : j = k := by omega
          have ho := own_ev hown.out
          rw [List.take_of_length_le (by rw [Hn.out]; exact Nat.le_refl _)] at ho
          have ho := Lib.hid ho
          clear hown
          go_wp2
          go_ret
          exact ⟨_, rfl, ho.out, hbel.out⟩
set_option maxRecDepth 100000 in
theorem growP_nil (n : Nat) (w : World) (hn : n ≤ 1099511627776) :
    Calls Tryz.prog 103 #[.slice none 0 0, .int .i64 n] w fun e w' => ∃ v, e = .returned v ∧ w'.ownsRow w.heap.size 25 (ptrE).sz v 0 ((ptrE).row []) ∧ Below w.heap.size w w' := by
  rcases Nat.eq_zero_or_pos n with h0 | h0
  · subst h0
    go_enter Tryz.func103, Tryz.ntmps103
    go_wp2
    go_ret
    exact ⟨_, rfl, World.ownsRow_nil _ _ _ _, Below.refl _ _⟩
  · obtain ⟨i0, hi, hz0, hz1, hz2⟩ := info_parts infoP
    have hold : (Builtin.firstCells i0.size 0 (.slice none 0 0)).run Tryz.prog w.drew = .ok ([] : List Value).toArray w.drew := run_firstCells_none w.drew i0.size 0 0 0
    have hrun := fun ty => Lib.run_append_grow_zeros w 76 3 ty 25 i0 (ptrE).zero .i64 .i64 Tryz.underlying76 Tryz.underlying3 hi hz0 none 0 0 [] hold n h0 (by rw [hz1]; exact (ptrE).pos) (by omega) (by omega)
      (by rw [hz2]; show n * 8 ≤ _; omega) (growslice_fits (by omega) (by rw [hz2]; show _ * 8 ≤ _; omega))
    have hG1 : n ≤ grownCap w (0 + n) 0 25 := by have := grownCap_ge w (0 + n) 0 25; omega
    have hG2 := grownCap_le_maxLen w (0 + n) 0 25 (by unfold maxLen; omega)
    generalize grownCap w (0 + n) 0 25 = G at *
    have hG3 : G ≤ 9223372036854775807 := by unfold maxLen at hG2; omega
    rw [Nat.zero_add] at hrun
    obtain ⟨w1, hw1⟩ : ∃ w1, w1 = w.drew.alloc (.cells (([] : List Value).toArray ++ Builtin.zeroCells (ptrE).zero.cells n ++ Builtin.zeroCells (ptrE).zero.cells (G - n)) 25) := ⟨_, rfl⟩
    have hown : w1.ownsRow w.heap.size 25 (ptrE).sz (.slice (some ⟨w.heap.size, 0, none⟩) 0 G) 0 ((ptrE).row []) := by
      rw [hw1]
      exact World.ownsRow_made w.drew _ G (Nat.le_refl _) hG2 (by
        rw [Array.size_append, Array.size_append, size_zeroCells, size_zeroCells, (ptrE).zc]
        show 0 + n * 1 + (G - n) * 1 = G * 1
        omega)
    have hb : Below w.heap.size w w1 := by rw [hw1]; exact (Below.refl _ _).drew.alloc (Nat.le_refl _) _
    rw [← hw1] at hrun
    have Hown := Lib.hid hown
    have Hb := Lib.hid hb
    clear hold hw1 hown hb hG2 hi hz0 hz1 hz2
    go_enter Tryz.func103, Tryz.ntmps103
    go_wp2_with (at_builtin; refine Lib.wpList_append_run _ rfl _ _ _ _ rfl _ _ rfl rfl _ _ (hrun _) ?_)
    all_goals (go_ret; exact ⟨_, rfl, Hown.out, Hb.out⟩)
set_option maxRecDepth 100000 in
theorem concatP_any (g n c : Nat) (es : List (List Nat)) (hn : es.length = n) (w : World) (hp : PartsE ptrE w g es) (hl : es.flatten.length ≤ 1000000) (hk : n ≤ 65536) :
    Calls Tryz.prog 98 #[.slice (some ⟨g, 0, none⟩) n c] w fun e w' => ∃ v, e = .returned v ∧ EV ptrE w' v es.flatten ∧ Below w.heap.size w w' := by
  have Hp := Lib.hid hp
  have Hn := Lib.hid hn
  have Hl := Lib.hid hl
  clear hp hn hl
  go_enter Tryz.func98, Tryz.ntmps98
  go_wp2_with fail
  go_loop [3, 5, 11] (fun s _ i => ∃ k t : Nat, k ≤ n ∧ i = .int .i64 k ∧ s = .int .i64 t ∧ Hid (t = catE es k) ∧ t ≤ 1000000) (fun _ _ i => n - (intOf i).toNat)
  case atStart => exact ⟨0, 0, Nat.zero_le _, rfl, rfl, rfl, by omega⟩
  case round =>
    obtain ⟨k, t, hkn, rfl, rfl, ht, ht1⟩ := hrel
    by_cases hlt : k < n
    · obtain ⟨a, c1, hc, _, _⟩ := Hp.out k (by rw [Hn.out]; exact hlt)
      have hs := catE_succ es k (by rw [Hn.out]; exact hlt)
      have hle := catE_le es (k + 1)
      have hll := Hl.out
      generalize (es.getD k []).length = m at *
      have hm : t + m ≤ 1000000 := by have := ht.out; omega
      have ht2 : Hid (t + m = catE es (k + 1)) := by show _ = _; rw [hs, ht.out]
      have hd : decide ((t : Int) + (m : Int) < 0) = false := by simp; omega
      clear hs hle hll ht
      go_wp2
      go_round
      case rel => exact ⟨k + 1, t + m, by omega, by go_num, by go_num, ht2, hm⟩
      case measure => simp [intOf]; omega
    · obtain rfl : k = n := by omega
      have ht2 : Hid (t = es.flatten.length) := by show _ = _; rw [ht.out, catE_all es k (by rw [Hn.out]; exact Nat.le_refl _)]
      clear ht hlt
      go_wp2_with fail
      refine (growP_nil t w (by omega)).mono ?_
      rintro e w1 ⟨v1, rfl, hown1, hb1⟩
      have Ho1 := Lib.hid hown1
      have Hb1 := Lib.hid hb1
      clear hown1 hb1
      go_wp2_with fail
      go_loopw [6, 8, 27] (fun o _ i wr => ∃ (k2 : Nat) (ov : Value), k2 ≤ k ∧ o = ov ∧ i = .int .i64 k2 ∧ Hid (wr.ownsRow w.heap.size 25 (ptrE).sz ov (es.take k2).flatten.length ((ptrE).row (es.take k2).flatten)) ∧ Hid (Below w.heap.size w wr)) (fun _ _ i _ => k - (intOf i).toNat)
      case atStart => exact ⟨0, v1, Nat.zero_le _, rfl, rfl, by rw [List.take_zero]; exact Ho1, Hb1⟩
      case round =>
        obtain ⟨j, ov, hj, rfl, rfl, hown, hbel⟩ := hrel
        by_cases hlt : j < k
        · obtain ⟨a, c1, hc, hs, hz⟩ := (Hp.out.below hbel.out (Nat.le_refl _)) j (by rw [Hn.out]; exact hlt)
          have hcat := cat_succE es j (by rw [Hn.out]; exact hlt)
          have hlen : (es.take j).flatten.length + (es.getD j []).length ≤ 1000000 := by
            have h1 := catE_le es (j + 1)
            rw [catE_succ es j (by rw [Hn.out]; exact hlt)] at h1
            have h2 := Hl.out
            unfold catE at h1
            omega
          have hsz := hbel.out.size
          obtain ⟨v', w2, hrun, hb2, ho2⟩ := run_app_own (P := Tryz.prog) (E := ptrE) w.heap.size 76 76 25 Tryz.underlying76 infoP _ (es.take j).flatten.length (es.take j).flatten hown.out hsz a (es.getD j []).length c1 (es.getD j []) rfl hz hs (by unfold maxLen; omega) (by show _ * 8 ≤ _; omega)
          have Hb2 := Lib.hid (hbel.out.trans hb2)
          have Ho2 : Hid (w2.ownsRow w.heap.size 25 (ptrE).sz v' (es.take (j + 1)).flatten.length ((ptrE).row (es.take (j + 1)).flatten)) := by rw [hcat, List.length_append]; exact ho2
          clear hs hz hcat hlen hsz hb2 ho2 hown hbel
          generalize (es.getD j []).length = M at *
          go_wp2_with (at_builtin; refine Lib.wpList_append_run _ rfl (.tmp 31) (.tmp 32) _ _ rfl _ _ (by rfl) (by rfl) _ _ hrun ?_)
          go_wp2
          go_roundw
          case rel => exact ⟨j + 1, v', by omega, rfl, by go_num, Ho2, Hb2⟩
          case measure => simp [intOf]; omega
        · obtain rfl : j = k := by omega
          have ho := own_ev hown.out
          rw [List.take_of_length_le (by rw [Hn.out]; exact Nat.le_refl _)] at ho
          have ho := Lib.hid ho
          clear hown
          go_wp2
          go_ret
          exact ⟨_, rfl, ho.out, hbel.out⟩
set_option maxRecDepth 100000 in
theorem growS_nil (n : Nat) (w : World) (hn : n ≤ 1099511627776) :
    Calls Tryz.prog 102 #[.slice none 0 0, .int .i64 n] w fun e w' => ∃ v, e = .returned v ∧ w'.ownsRow w.heap.size 9 (strE).sz v 0 ((strE).row []) ∧ Below w.heap.size w w' := by
  rcases Nat.eq_zero_or_pos n with h0 | h0
  · subst h0
    go_enter Tryz.func102, Tryz.ntmps102
    go_wp2
    go_ret
    exact ⟨_, rfl, World.ownsRow_nil _ _ _ _, Below.refl _ _⟩
  · obtain ⟨i0, hi, hz0, hz1, hz2⟩ := info_parts infoSt
    have hold : (Builtin.firstCells i0.size 0 (.slice none 0 0)).run Tryz.prog w.drew = .ok ([] : List Value).toArray w.drew := run_firstCells_none w.drew i0.size 0 0 0
    have hrun := fun ty => Lib.run_append_grow_zeros w 73 3 ty 9 i0 (strE).zero .i64 .i64 Tryz.underlying73 Tryz.underlying3 hi hz0 none 0 0 [] hold n h0 (by rw [hz1]; exact (strE).pos) (by omega) (by omega)
      (by rw [hz2]; show n * 16 ≤ _; omega) (growslice_fits (by omega) (by rw [hz2]; show _ * 16 ≤ _; omega))
    have hG1 : n ≤ grownCap w (0 + n) 0 9 := by have := grownCap_ge w (0 + n) 0 9; omega
    have hG2 := grownCap_le_maxLen w (0 + n) 0 9 (by unfold maxLen; omega)
    generalize grownCap w (0 + n) 0 9 = G at *
    have hG3 : G ≤ 9223372036854775807 := by unfold maxLen at hG2; omega
    rw [Nat.zero_add] at hrun
    obtain ⟨w1, hw1⟩ : ∃ w1, w1 = w.drew.alloc (.cells (([] : List Value).toArray ++ Builtin.zeroCells (strE).zero.cells n ++ Builtin.zeroCells (strE).zero.cells (G - n)) 9) := ⟨_, rfl⟩
    have hown : w1.ownsRow w.heap.size 9 (strE).sz (.slice (some ⟨w.heap.size, 0, none⟩) 0 G) 0 ((strE).row []) := by
      rw [hw1]
      exact World.ownsRow_made w.drew _ G (Nat.le_refl _) hG2 (by
        rw [Array.size_append, Array.size_append, size_zeroCells, size_zeroCells, (strE).zc]
        show 0 + n * 1 + (G - n) * 1 = G * 1
        omega)
    have hb : Below w.heap.size w w1 := by rw [hw1]; exact (Below.refl _ _).drew.alloc (Nat.le_refl _) _
    rw [← hw1] at hrun
    have Hown := Lib.hid hown
    have Hb := Lib.hid hb
    clear hold hw1 hown hb hG2 hi hz0 hz1 hz2
    go_enter Tryz.func102, Tryz.ntmps102
    go_wp2_with (at_builtin; refine Lib.wpList_append_run _ rfl _ _ _ _ rfl _ _ rfl rfl _ _ (hrun _) ?_)
    all_goals (go_ret; exact ⟨_, rfl, Hown.out, Hb.out⟩)
set_option maxRecDepth 100000 in
theorem concatS_any (g n c : Nat) (es : List (List ByteArray)) (hn : es.length = n) (w : World) (hp : PartsE strE w g es) (hl : es.flatten.length ≤ 1000000) (hk : n ≤ 65536) :
    Calls Tryz.prog 97 #[.slice (some ⟨g, 0, none⟩) n c] w fun e w' => ∃ v, e = .returned v ∧ EV strE w' v es.flatten ∧ Below w.heap.size w w' := by
  have Hp := Lib.hid hp
  have Hn := Lib.hid hn
  have Hl := Lib.hid hl
  clear hp hn hl
  go_enter Tryz.func97, Tryz.ntmps97
  go_wp2_with fail
  go_loop [3, 5, 11] (fun s _ i => ∃ k t : Nat, k ≤ n ∧ i = .int .i64 k ∧ s = .int .i64 t ∧ Hid (t = catE es k) ∧ t ≤ 1000000) (fun _ _ i => n - (intOf i).toNat)
  case atStart => exact ⟨0, 0, Nat.zero_le _, rfl, rfl, rfl, by omega⟩
  case round =>
    obtain ⟨k, t, hkn, rfl, rfl, ht, ht1⟩ := hrel
    by_cases hlt : k < n
    · obtain ⟨a, c1, hc, _, _⟩ := Hp.out k (by rw [Hn.out]; exact hlt)
      have hs := catE_succ es k (by rw [Hn.out]; exact hlt)
      have hle := catE_le es (k + 1)
      have hll := Hl.out
      generalize (es.getD k []).length = m at *
      have hm : t + m ≤ 1000000 := by have := ht.out; omega
      have ht2 : Hid (t + m = catE es (k + 1)) := by show _ = _; rw [hs, ht.out]
      have hd : decide ((t : Int) + (m : Int) < 0) = false := by simp; omega
      clear hs hle hll ht
      go_wp2
      go_round
      case rel => exact ⟨k + 1, t + m, by omega, by go_num, by go_num, ht2, hm⟩
      case measure => simp [intOf]; omega
    · obtain rfl : k = n := by omega
      have ht2 : Hid (t = es.flatten.length) := by show _ = _; rw [ht.out, catE_all es k (by rw [Hn.out]; exact Nat.le_refl _)]
      clear ht hlt
      go_wp2_with fail
      refine (growS_nil t w (by omega)).mono ?_
      rintro e w1 ⟨v1, rfl, hown1, hb1⟩
      have Ho1 := Lib.hid hown1
      have Hb1 := Lib.hid hb1
      clear hown1 hb1
      go_wp2_with fail
      go_loopw [6, 8, 27] (fun o _ i wr => ∃ (k2 : Nat) (ov : Value), k2 ≤ k ∧ o = ov ∧ i = .int .i64 k2 ∧ Hid (wr.ownsRow w.heap.size 9 (strE).sz ov (es.take k2).flatten.length ((strE).row (es.take k2).flatten)) ∧ Hid (Below w.heap.size w wr)) (fun _ _ i _ => k - (intOf i).toNat)
      case atStart => exact ⟨0, v1, Nat.zero_le _, rfl, rfl, by rw [List.take_zero]; exact Ho1, Hb1⟩
      case round =>
        obtain ⟨j, ov, hj, rfl, rfl, hown, hbel⟩ := hrel
        by_cases hlt : j < k
        · obtain ⟨a, c1, hc, hs, hz⟩ := (Hp.out.below hbel.out (Nat.le_refl _)) j (by rw [Hn.out]; exact hlt)
          have hcat := cat_succE es j (by rw [Hn.out]; exact hlt)
          have hlen : (es.take j).flatten.length + (es.getD j []).length ≤ 1000000 := by
            have h1 := catE_le es (j + 1)
            rw [catE_succ es j (by rw [Hn.out]; exact hlt)] at h1
            have h2 := Hl.out
            unfold catE at h1
            omega
          have hsz := hbel.out.size
          obtain ⟨v', w2, hrun, hb2, ho2⟩ := run_app_own (P := Tryz.prog) (E := strE) w.heap.size 73 73 9 Tryz.underlying73 infoSt _ (es.take j).flatten.length (es.take j).flatten hown.out hsz a (es.getD j []).length c1 (es.getD j []) rfl hz hs (by unfold maxLen; omega) (by show _ * 16 ≤ _; omega)
          have Hb2 := Lib.hid (hbel.out.trans hb2)
          have Ho2 : Hid (w2.ownsRow w.heap.size 9 (strE).sz v' (es.take (j + 1)).flatten.length ((strE).row (es.take (j + 1)).flatten)) := by rw [hcat, List.length_append]; exact ho2
          clear hs hz hcat hlen hsz hb2 ho2 hown hbel
          generalize (es.getD j []).length = M at *
          go_wp2_with (at_builtin; refine Lib.wpList_append_run _ rfl (.tmp 31) (.tmp 32) _ _ rfl _ _ (by rfl) (by rfl) _ _ hrun ?_)
          go_wp2
          go_roundw
          case rel => exact ⟨j + 1, v', by omega, rfl, by go_num, Ho2, Hb2⟩
          case measure => simp [intOf]; omega
        · obtain rfl : j = k := by omega
          have ho := own_ev hown.out
          rw [List.take_of_length_le (by rw [Hn.out]; exact Nat.le_refl _)] at ho
          have ho := Lib.hid ho
          clear hown
          go_wp2
          go_ret
          exact ⟨_, rfl, ho.out, hbel.out⟩
end Go.Proofs.YtbgkjniagedcnaaGreatDoor
