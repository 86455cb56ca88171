/-
  The library's slices.Clone, slices.Grow (of nothing), slices.Concat, at bytes.
-/
import Derived.Test.YtjlllkdimfkjaaaDoorProg
import Derived.Test.YtjlllkdimfkjaaaDoorMath2
import Derived.Test.YtjlllkdimfkjaaaDoorBy
import Derived.WalkKit
import Derived.Below
import Derived.Lib.Hide
import Derived.Lib.AppendZerosOnto
import Derived.Lib.SliceRun
namespace Go.Proofs.YtjlllkdimfkjaaaDoor
open Go Go.RowKit

theorem infoB : (Tryd.prog.info? 5).map (fun i => (i.zero, i.size, i.bytes)) = some (some (.int .u8 0), 1, 1) := by kernel_rfl

/-- A slice that reads as these bytes, nil or at a place of a row, with its reach. -/
def Sl (w : World) (v : Value) (l : List Nat) : Prop := (v = .slice none 0 0 ∧ l = []) ∨ ∃ g o c, v = .slice (some ⟨g, o, none⟩) l.length c ∧ Cs w g o l ∧ l.length ≤ c ∧ c ≤ maxLen
theorem Sl.none (w : World) : Sl w (.slice none 0 0) [] := .inl ⟨rfl, rfl⟩
theorem Sl.below {w w' : World} {v : Value} {l : List Nat} {B : Nat} (h : Sl w v l) (hb : Below B w w') (hB : w.heap.size ≤ B) : Sl w' v l := by
  rcases h with h | ⟨g, o, c, rfl, hc, h1, h2⟩
  · exact .inl h
  · refine .inr ⟨g, o, c, rfl, ?_, h1, h2⟩
    rcases Nat.eq_zero_or_pos l.length with h0 | h0
    · intro i hi; omega
    · exact hc.below hb (Nat.lt_of_lt_of_le (hc.lt h0) hB)
/-- As an argument of a call. -/
theorem Sl.arg {w : World} {v : Value} {l : List Nat} (h : Sl w v l) : ∃ a c, v = .slice a l.length c ∧ Src w a l ∧ (a = Option.none → c = 0) ∧ l.length ≤ c ∧ c ≤ maxLen := by
  rcases h with ⟨rfl, rfl⟩ | ⟨g, o, c, rfl, hc, h1, h2⟩
  · exact ⟨Option.none, 0, rfl, Src.nil _ _, fun _ => rfl, Nat.le_refl _, by unfold maxLen; omega⟩
  · exact ⟨_, c, rfl, hc.src, (fun h => by cases h), h1, h2⟩
theorem Sl.own {w : World} {B E : Nat} {v : Value} {l : List Nat} (h : w.ownsRow B E 1 v l.length (bv l)) : Sl w v l := by
  rcases h.2 with ⟨rfl, h0⟩ | ⟨g, cap, cur, rfl, hb, hg, hnc, hcm, _⟩
  · have : l = [] := List.eq_nil_of_length_eq_zero h0
    subst this
    exact .inl ⟨rfl, rfl⟩
  · refine .inr ⟨g, 0, cap, rfl, fun i hi => ?_, hnc, hcm⟩
    have := h.cellAt i (by omega)
    rw [bv_get l i hi] at this
    simpa using this
theorem Sl.row {w : World} {g : Nat} {l : List Nat} (h : Row w g 5 l) (hm : l.length ≤ maxLen) : Sl w (.slice (some ⟨g, 0, Option.none⟩) l.length l.length) l :=
  .inr ⟨g, 0, l.length, rfl, h.cs, Nat.le_refl _, hm⟩
theorem Sl.conv {w : World} {v : Value} {l : List Nat} (h : Sl w v l) : (convert 26 9 v).run Tryd.prog w = .ok (.string (bstr l)) w := by
  obtain ⟨a, c, rfl, hs, _⟩ := h.arg
  exact conv_src 26 5 9 Tryd.underlying26 Tryd.underlying5 Tryd.underlying9 a l.length c l rfl w hs

set_option maxRecDepth 100000 in
theorem clone_any (a : Option Addr) (n c : Nat) (l : List Nat) (hn : l.length = n) (w : World) (hsrc : Src w a l) (hz : a = none → c = 0) (hl : n ≤ 1099511627776) :
    Calls Tryd.prog 36 #[.slice a n c] w fun e w' => ∃ v, e = .returned v ∧ Sl w' v l ∧ Below w.heap.size w w' := by
  have Hs := Lib.hid hsrc
  have Hn := Lib.hid hn
  have q22 : ∀ (w : World) (a : Option Addr) (n c n' c' : Nat), (binOp .eql 26 (.slice a n c) (.slice none n' c')).run Tryd.prog w = .ok (.bool a.isNone) w := fun w a n c n' c' => Lib.run_eql_slice_nil w _ _ a n c n' c' Tryd.underlying26
  cases a with
  | none =>
    obtain rfl : l = [] := by
      cases l with
      | nil => rfl
      | cons x r => obtain ⟨_, _, h0, _⟩ := hsrc (by simp); cases h0
    obtain rfl := hz rfl
    obtain rfl : n = 0 := hn.symm
    clear hsrc
    go_enter Tryd.func36, Tryd.ntmps36
    go_wp2
    go_ret
    exact ⟨_, rfl, .inl ⟨rfl, rfl⟩, Below.refl _ _⟩
  | some ad =>
    clear hsrc hn
    have hb1 : Below w.heap.size w (w.alloc (.cells #[] 5)) := (Below.refl _ _).alloc (Nat.le_refl _) _
    go_enter Tryd.func36, Tryd.ntmps36
    go_wp2_with (at_builtin; refine wpList_append_bytes rfl (.tmp 5) (.tmp 6) 26 rfl w.heap.size 5 Tryd.underlying26 infoB _ [] (by rfl) (own_empty w 5) (some ad) c l (by rw [Hn.out]; rfl) (fun h => by cases h) (Hs.out.below hb1 (Nat.le_refl _)) (by rw [Hn.out]; simp only [List.length_nil]; omega) hb1.size ?_; intro v' w2 hown2 hgrow2 hnear2)
    have hbn : Below w.heap.size w w2 := hb1.grown hgrow2.out hb1.size (by intro k hk; cases hk; exact Nat.le_refl _)
    have ho : Sl w2 v' l := Sl.own hown2.out
    go_ret
    exact ⟨_, rfl, ho, hbn⟩
set_option maxRecDepth 100000 in
theorem grow_nil (n : Nat) (w : World) (hn : n ≤ 1099511627776) :
    Calls Tryd.prog 47 #[.slice none 0 0, .int .i64 n] w fun e w' => ∃ v, e = .returned v ∧ w'.ownsRow w.heap.size 5 1 v 0 (bv []) ∧ Below w.heap.size w w' := by
  rcases Nat.eq_zero_or_pos n with h0 | h0
  · subst h0
    go_enter Tryd.func47, Tryd.ntmps47
    go_wp2
    go_ret
    exact ⟨_, rfl, own_nil _ _ _, Below.refl _ _⟩
  · obtain ⟨i0, hi, hz0, hz1, hz2⟩ := info_parts infoB
    have hold : (Builtin.firstCells i0.size 0 (.slice none 0 0)).run Tryd.prog w.drew = .ok ([] : List Value).toArray w.drew := run_firstCells_none w.drew i0.size 0 0 0
    have hrun := fun ty => Lib.run_append_grow_zeros w 26 3 ty 5 i0 (.int .u8 0) .i64 .i64 Tryd.underlying26 Tryd.underlying3 hi hz0 none 0 0 [] hold n h0 (by omega) (by omega) (by omega)
      (by rw [hz2]; omega) (growslice_fits (by omega) (by rw [hz2]; omega))
    have hG1 : n ≤ grownCap w (0 + n) 0 5 := by have := grownCap_ge w (0 + n) 0 5; omega
    have hG2 := grownCap_le_maxLen w (0 + n) 0 5 (by unfold maxLen; omega)
    generalize grownCap w (0 + n) 0 5 = G at *
    have hG3 : G ≤ 9223372036854775807 := by unfold maxLen at hG2; omega
    rw [Nat.zero_add] at hrun
    obtain ⟨w1, hw1⟩ : ∃ w1, w1 = w.drew.alloc (.cells (([] : List Value).toArray ++ Builtin.zeroCells (Value.int .u8 0).cells n ++ Builtin.zeroCells (Value.int .u8 0).cells (G - n)) 5) := ⟨_, rfl⟩
    have hown : w1.ownsRow w.heap.size 5 1 (.slice (some ⟨w.heap.size, 0, none⟩) 0 G) 0 (bv []) := by
      rw [hw1]
      exact World.ownsRow_made w.drew _ G (Nat.le_refl _) hG2 (by
        rw [Array.size_append, Array.size_append, size_zeroCells, size_zeroCells]
        show 0 + n * 1 + (G - n) * 1 = G * 1
        omega)
    have hb : Below w.heap.size w w1 := by rw [hw1]; exact (Below.refl _ _).drew.alloc (Nat.le_refl _) _
    rw [← hw1] at hrun
    have Hown := Lib.hid hown
    have Hb := Lib.hid hb
    clear hold hw1 hown hb hG2 hi hz0 hz1 hz2
    go_enter Tryd.func47, Tryd.ntmps47
    go_wp2_with (at_builtin; refine Lib.wpList_append_run _ rfl _ _ _ _ rfl _ _ rfl rfl _ _ (hrun _) ?_)
    all_goals (go_ret; exact ⟨_, rfl, Hown.out, Hb.out⟩)

/-- The cells of a row are slices that read as these bytes. -/
def Parts (w : World) (g : Nat) (es : List (List Nat)) : Prop := ∀ i, i < es.length → ∃ a c, w.cell? ⟨g, i, none⟩ = some (.slice a (es.getD i []).length c) ∧ Src w a (es.getD i []) ∧ (a = none → c = 0)
theorem Parts.below {w w' : World} {g B : Nat} {es : List (List Nat)} (h : Parts w g es) (hb : Below B w w') (hB : w.heap.size ≤ B) : Parts w' g es := fun i hi => by
  obtain ⟨a, c, hc, hs, hz⟩ := h i hi
  exact ⟨a, c, by rw [hb.cell (p := ⟨g, i, none⟩) (Nat.lt_of_lt_of_le (block_lt_of_cell hc) hB)]; exact hc, hs.below hb hB, hz⟩
/-- How many bytes the first k are. -/
def catLen (es : List (List Nat)) (k : Nat) : Nat := (es.take k).flatten.length
theorem cat_succ (es : List (List Nat)) (k : Nat) (h : k < es.length) : (es.take (k + 1)).flatten = (es.take k).flatten ++ es.getD k [] := by
  rw [List.take_succ_eq_append_getElem h, List.flatten_append]
  simp [List.getD, h]
theorem catLen_succ (es : List (List Nat)) (k : Nat) (h : k < es.length) : catLen es (k + 1) = catLen es k + (es.getD k []).length := by
  unfold catLen; rw [cat_succ es k h, List.length_append]
theorem catLen_all (es : List (List Nat)) (k : Nat) (h : es.length ≤ k) : catLen es k = es.flatten.length := by unfold catLen; rw [List.take_of_length_le h]
theorem catLen_le (es : List (List Nat)) (k : Nat) : catLen es k ≤ es.flatten.length := by
  unfold catLen
  have h := congrArg List.length (congrArg List.flatten (List.take_append_drop k es))
  rw [List.flatten_append, List.length_append] at h
  omega
set_option maxRecDepth 100000 in
theorem concat_any (g n c : Nat) (es : List (List Nat)) (hn : es.length = n) (w : World) (hp : Parts w g es) (hl : es.flatten.length ≤ 1099511627776) (hk : n ≤ 65536) :
    Calls Tryd.prog 33 #[.slice (some ⟨g, 0, none⟩) n c] w fun e w' => ∃ v, e = .returned v ∧ Sl w' v es.flatten ∧ Below w.heap.size w w' := by
  have Hp := Lib.hid hp
  have Hn := Lib.hid hn
  have Hl := Lib.hid hl
  clear hp hn hl
  go_enter Tryd.func33, Tryd.ntmps33
  go_wp2_with fail
  go_loop [3, 5, 11] (fun s _ i => ∃ k t : Nat, k ≤ n ∧ i = .int .i64 k ∧ s = .int .i64 t ∧ Hid (t = catLen es k) ∧ t ≤ 1099511627776) (fun _ _ i => n - (intOf i).toNat)
  case atStart => exact ⟨0, 0, Nat.zero_le _, rfl, rfl, rfl, by omega⟩
  case round =>
    obtain ⟨k, t, hkn, rfl, rfl, ht, ht1⟩ := hrel
    by_cases hlt : k < n
    · obtain ⟨a, c1, hc, _, _⟩ := Hp.out k (by rw [Hn.out]; exact hlt)
      have hs := catLen_succ es k (by rw [Hn.out]; exact hlt)
      have hle := catLen_le es (k + 1)
      have hll := Hl.out
      generalize (es.getD k []).length = m at *
      have hm : t + m ≤ 1099511627776 := by have := ht.out; omega
      have ht2 : Hid (t + m = catLen es (k + 1)) := by show _ = _; rw [hs, ht.out]
      have hd : decide ((t : Int) + (m : Int) < 0) = false := by simp; omega
      clear hs hle hll ht
      go_wp2
      go_round
      case rel => exact ⟨k + 1, t + m, by omega, by go_num, by go_num, ht2, hm⟩
      case measure => simp [intOf]; omega
    · obtain rfl : k = n := by omega
      have ht2 : Hid (t = es.flatten.length) := by show _ = _; rw [ht.out, catLen_all es k (by rw [Hn.out]; exact Nat.le_refl _)]
      clear ht hlt
      go_wp2_with fail
      refine (grow_nil t w ht1).mono ?_
      rintro e w1 ⟨v1, rfl, hown1, hb1⟩
      have Ho1 := Lib.hid hown1
      have Hb1 := Lib.hid hb1
      clear hown1 hb1
      go_wp2_with fail
      go_loopw [6, 8, 27] (fun o _ i wr => ∃ (k2 : Nat) (ov : Value), k2 ≤ k ∧ o = ov ∧ i = .int .i64 k2 ∧ Hid (wr.ownsRow w.heap.size 5 1 ov (es.take k2).flatten.length (bv (es.take k2).flatten)) ∧ Hid (Below w.heap.size w wr)) (fun _ _ i _ => k - (intOf i).toNat)
      case atStart => exact ⟨0, v1, Nat.zero_le _, rfl, rfl, by rw [List.take_zero]; exact Ho1, Hb1⟩
      case round =>
        obtain ⟨j, ov, hj, rfl, rfl, hown, hbel⟩ := hrel
        by_cases hlt : j < k
        · obtain ⟨a, c1, hc, hs, hz⟩ := (Hp.out.below hbel.out (Nat.le_refl _)) j (by rw [Hn.out]; exact hlt)
          have hcat := cat_succ es j (by rw [Hn.out]; exact hlt)
          have hlen : (es.take j).flatten.length + (es.getD j []).length ≤ 140737488355328 := by
            have h1 := catLen_le es (j + 1)
            rw [catLen_succ es j (by rw [Hn.out]; exact hlt)] at h1
            have h2 := Hl.out
            unfold catLen at h1
            omega
          have Hs := Lib.hid hs
          have Hz := Lib.hid hz
          have Hcat := Lib.hid hcat
          clear hs hz hcat
          have hsz := hbel.out.size
          generalize es.getD j [] = M at *
          go_wp2_with (at_builtin; refine wpList_append_bytes rfl (.tmp 31) (.tmp 32) 26 rfl w.heap.size 5 Tryd.underlying26 infoB _ (es.take j).flatten (by rfl) hown a c1 M (by rfl) Hz.out Hs.out hlen hsz ?_; intro v' w2 hown2 hgrow2 hnear2)
          have hb2 : Hid (Below w.heap.size w w2) := hbel.out.grown hgrow2.out hsz (fun j hj => (hown.out.lt j hj).1)
          have ho2 : Hid (w2.ownsRow w.heap.size 5 1 v' (es.take (j + 1)).flatten.length (bv (es.take (j + 1)).flatten)) := by rw [Hcat.out]; exact hown2
          clear hown2 hgrow2 hnear2 hown hbel
          go_wp2
          go_roundw
          case rel => exact ⟨j + 1, v', by omega, rfl, by go_num, ho2, hb2⟩
          case measure => simp [intOf]; omega
        · obtain rfl : j = k := by omega
          have ho := Sl.own hown.out
          rw [List.take_of_length_le (by rw [Hn.out]; exact Nat.le_refl _)] at ho
          have ho := Lib.hid ho
          clear hown
          go_wp2
          go_ret
          exact ⟨_, rfl, ho.out, hbel.out⟩
end Go.Proofs.YtjlllkdimfkjaaaDoor
