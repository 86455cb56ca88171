/-
  cut's turned: a list the other way round.
-/
import Derived.Test.YtggibbgohhpfpaaDoorTreeZ
import Derived.Test.YtggibbgohhpfpaaDoorRefTreeZ
import Derived.Laws.MakeOwn
namespace Go.Proofs.YtggibbgohhpfpaaDoor
open Go Go.RowKit

/-- A row of entries of which the last so many have been laid. -/
def Tu (w : World) (g n : Nat) (es : List En) (k : Nat) : Prop := ∃ A, w.heap[g]? = some (.cells A ET (0, 0)) ∧ A.size = n * 2 ∧ ∀ i, i < k → A[(n - 1 - i) * 2]? = some (.string (ea es i).k) ∧ A[(n - 1 - i) * 2 + 1]? = some (.string (ea es i).v)
theorem Tu.ext {w w' : World} {g n k : Nat} {es : List En} (h : Tu w g n es k) (hb : Below w.heap.size w w') : Tu w' g n es k := by
  obtain ⟨A, h1, h2⟩ := h
  exact ⟨A, (hb.block g (Array.getElem?_eq_some_iff.1 h1).1).trans h1, h2⟩
theorem Tu.at {w : World} {g n k : Nat} {es : List En} (h : Tu w g n es k) (q : Nat) (hq : q < n) : (∃ u, w.cell? ⟨g, q * 2, none⟩ = some u) ∧ (∃ u, w.cell? ⟨g, q * 2 + 1, none⟩ = some u) ∧ ∀ j, w.frozen? ⟨g, j, none⟩ = false := by
  obtain ⟨A, h1, h2, _⟩ := h
  refine ⟨⟨A[q * 2], ?_⟩, ⟨A[q * 2 + 1], ?_⟩, fun j => ?_⟩
  · simp [World.cell?, h1]
  · simp [World.cell?, h1]
  · simp [World.frozen?, h1]
theorem Tu.put {w : World} {g n k : Nat} {es : List En} (h : Tu w g n es k) (hk : k < n) : Tu ((w.setCell ⟨g, (n - 1 - k) * 2, none⟩ (.string (ea es k).k)).setCell ⟨g, (n - 1 - k) * 2 + 1, none⟩ (.string (ea es k).v)) g n es (k + 1) := by
  obtain ⟨A, h1, h2, h3⟩ := h
  refine ⟨_, heap_setCell_same _ g _ _ _ _ (heap_setCell_same w g _ _ _ _ h1), by simp [h2], fun i hi => ?_⟩
  by_cases e : i = k
  · subst e
    constructor
    · rw [Array.getElem?_setIfInBounds, if_neg (by omega), Array.getElem?_setIfInBounds, if_pos rfl, if_pos (by omega)]
    · rw [Array.getElem?_setIfInBounds, if_pos rfl, if_pos (by simp; omega)]
  · have h4 := h3 i (by omega)
    constructor
    · rw [Array.getElem?_setIfInBounds, if_neg (by omega), Array.getElem?_setIfInBounds, if_neg (by omega)]; exact h4.1
    · rw [Array.getElem?_setIfInBounds, if_neg (by omega), Array.getElem?_setIfInBounds, if_neg (by omega)]; exact h4.2
theorem ea_rev (es : List En) (i : Nat) (hi : i < es.length) : ea es.reverse i = ea es (es.length - 1 - i) := by
  unfold ea
  simp [List.getD, List.getElem?_reverse hi]
theorem Tu.ev {w : World} {g n : Nat} {es : List En} (h : Tu w g n es n) (hn : es.length = n) (hm : n ≤ 60000) : EV entE w (.slice (some ⟨g, 0, none⟩) n n) es.reverse := by
  obtain ⟨A, h1, h2, h3⟩ := h
  have hl : es.reverse.length = n := by rw [List.length_reverse, hn]
  refine ⟨_, n, by rw [hl], ES.of_ents ⟨A, _, _, h1, by decide⟩ (fun i hi => ?_), (fun h => by cases h), by omega, by unfold maxLen; omega⟩
  have hi' : i < n := by omega
  have h4 := h3 (n - 1 - i) (by omega)
  rw [show n - 1 - (n - 1 - i) = i by omega] at h4
  rw [ea_rev es i (by omega), hn]
  exact ⟨by rw [Nat.zero_add]; simp [World.cell?, h1, h4.1], by rw [Nat.zero_add]; simp [World.cell?, h1, h4.2]⟩
set_option maxRecDepth 100000 in
theorem turned_any (a : Option Addr) (n c : Nat) (es : List En) (w : World) (hn : es.length = n) (hs : ES entE w a es) (hl : n ≤ 60000) :
    Calls Tryd.prog 39 #[.slice a n c] w fun e w' => ∃ u, e = .returned u ∧ EV entE w' u es.reverse ∧ Below w.heap.size w w' := by
  obtain ⟨i0, hi, hz, hs0, hby⟩ := info_parts infoE
  have hmk := run_make (P := Tryd.prog) w 54 ET i0 entE.zero Tryd.underlying54 hi hz .i64 .i64 (n : Int) (n : Int) (by omega) (Int.le_refl _) (by rw [hby]; show ((32 : Nat) : Int) * (n : Int) ≤ _; omega) (by omega)
  rw [hs0] at hmk
  simp only [Int.toNat_natCast] at hmk
  obtain ⟨W, hW, hnew, hbW⟩ := alloc_own w ET (madeCells entE.zero.cells (n * entE.sz))
  rw [hW] at hmk
  have ht0 : Tu W w.heap.size n es 0 := ⟨_, hnew, by rw [size_madeCells]; rfl, fun i hi => by omega⟩
  have Ht0 := Lib.hid ht0
  have HbW := Lib.hid hbW
  have Hs := Lib.hid hs
  have Hn := Lib.hid hn
  have lW : Hid (w.heap.size < W.heap.size) := (Array.getElem?_eq_some_iff.1 hnew).1
  clear hi hz hs0 hby hW hnew hbW ht0 hs hn
  go_enter Tryd.func39, Tryd.ntmps39
  go_wp2_with fail
  go_loopw [4, 5, 11] (fun _ _ i wr => ∃ k : Nat, i = .int .i64 k ∧ k ≤ n ∧ Hid (Tu wr w.heap.size n es k) ∧ Hid (Below w.heap.size w wr) ∧ Hid (w.heap.size < wr.heap.size)) (fun _ _ i _ => n - (intOf i).toNat)
  case atStart => exact ⟨0, rfl, by omega, Ht0, HbW, lW⟩
  case round =>
    obtain ⟨k, rfl, hk, ht, hB, hlr⟩ := hrel
    by_cases hlt : k < n
    · obtain ⟨g, o, rfl, hcell⟩ := (Hs.out.below hB.out (Nat.le_refl _)).ents (by have := Hn.out; omega)
      obtain ⟨p0, p1⟩ := hcell k (by have := Hn.out; omega)
      obtain ⟨W1, hW1⟩ : ∃ W1, wr.alloc (.cells #[.string (ea es k).k, .string (ea es k).v] ET) = W1 := ⟨_, rfl⟩
      have hb1 : Below wr.heap.size wr W1 := by rw [← hW1]; exact (Below.refl _ _).alloc (Nat.le_refl _) _
      have t1 := ht.out.ext hb1
      obtain ⟨⟨u0, c0⟩, ⟨u1, c1⟩, hfz⟩ := t1.at (n - 1 - k) (by omega)
      have f0 := hfz ((n - 1 - k) * 2)
      have f1 := hfz ((n - 1 - k) * 2 + 1)
      have T2 := Lib.hid (t1.put hlt)
      have hb2 : Hid (Below w.heap.size w ((W1.setCell ⟨w.heap.size, (n - 1 - k) * 2, none⟩ (.string (ea es k).k)).setCell ⟨w.heap.size, (n - 1 - k) * 2 + 1, none⟩ (.string (ea es k).v))) :=
        ((hB.out.trans (hb1.mono hB.out.size)).setCell (Nat.le_refl _) _).setCell (Nat.le_refl _) _
      have hl2 : Hid (w.heap.size < ((W1.setCell ⟨w.heap.size, (n - 1 - k) * 2, none⟩ (.string (ea es k).k)).setCell ⟨w.heap.size, (n - 1 - k) * 2 + 1, none⟩ (.string (ea es k).v)).heap.size) := by
        show _ < _
        have h1 := hb1.size
        have h2 := hlr.out
        simp [World.setCell]; omega
      obtain ⟨q, hq⟩ : ∃ q, n - 1 - k = q := ⟨_, rfl⟩
      rw [hq] at c0 c1 f0 f1 T2 hb2 hl2
      rw [← hW1] at c0 c1 f0 f1 T2 hb2 hl2
      generalize ea es k = y at *
      have hne : w.heap.size ≠ wr.heap.size := by have := hlr.out; omega
      have eq1 : (n : Int) - 1 - (k : Int) = (q : Int) := by omega
      have eq2 : IntKind.i64.wrap ((n : Int) - 1 - (k : Int)) = (q : Int) := by rw [IntKind.wrap_i64]; omega
      have eq3 : IntKind.i64.wrap ((n : Int) - 1) = (n : Int) - 1 := by rw [IntKind.wrap_i64]; omega
      have eq4 : (q : Int) < (n : Int) := by omega
      have eq5 : (0 : Int) ≤ (q : Int) := by omega
      have eq6 : q < n := by omega
      clear hcell hW1 hb1 t1 hfz hq ht hB hlr hmk
      go_wp2_with fail
      go_roundw
      case rel => exact ⟨k + 1, by go_num, by omega, T2, hb2, hl2⟩
      case measure => simp [intOf]; omega
    · obtain rfl : k = n := by omega
      have Hev := Lib.hid (ht.out.ev Hn.out hl)
      clear ht hmk
      go_wp2
      go_ret
      exact ⟨_, rfl, Hev.out, hB.out⟩
end Go.Proofs.YtggibbgohhpfpaaDoor
