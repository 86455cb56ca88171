/-
  A law's are: the same entries.
-/
import Derived.Test.YtimdlgjgoggaiaaDoorRefTreeZ
namespace Go.Proofs.YtimdlgjgoggaiaaDoor
open Go Go.RowKit

set_option maxRecDepth 100000 in
theorem are_yes (a b : Option Addr) (n c d : Nat) (es : List En) (w : World) (hn : es.length = n) (h1 : ES entE w a es) (h2 : ES entE w b es) (hl : n ≤ 100000) :
    Calls Tryd.prog 15 #[.slice a n c, .slice b n d] w fun e w' => e = .returned (.bool true) ∧ Below w.heap.size w w' := by
  have H1 := Lib.hid h1
  have H2 := Lib.hid h2
  have Hn := Lib.hid hn
  clear h1 h2 hn
  go_enter Tryd.func15, Tryd.ntmps15
  go_wp2_with fail
  go_loopw [5] (fun i wr => ∃ k : Nat, i = .int .i64 k ∧ k ≤ n ∧ Hid (Below w.heap.size w wr)) (fun i _ => n - (intOf i).toNat)
  case atStart => exact ⟨0, rfl, by omega, Below.refl _ _⟩
  case round =>
    obtain ⟨k, rfl, hk, hB⟩ := hrel
    by_cases hlt : k < n
    · obtain ⟨g, o, rfl, hcell⟩ := (H1.out.below hB.out (Nat.le_refl _)).ents (by rw [Hn.out]; omega)
      obtain ⟨g2, o2, rfl, hcell2⟩ := (H2.out.below hB.out (Nat.le_refl _)).ents (by rw [Hn.out]; omega)
      obtain ⟨p0, p1⟩ := hcell k (by rw [Hn.out]; exact hlt)
      obtain ⟨p2, p3⟩ := hcell2 k (by rw [Hn.out]; exact hlt)
      obtain ⟨W, hW⟩ : ∃ W, wr.drew = W := ⟨_, rfl⟩
      have hbd : Below wr.heap.size wr W := by rw [← hW]; exact (Below.refl _ _).drew
      have l0 := block_lt_of_cell p0
      have l1 := block_lt_of_cell p2
      have q0 : ∀ w', Ext W w' → w'.cell? ⟨g, o + k * 2, none⟩ = some (.string (ea es k).k) := fun w' hx => by
        rw [(hbd.trans (hx.mono hbd.size)).cell (p := ⟨g, o + k * 2, none⟩) l0]; exact p0
      have q1 : ∀ w', Ext W w' → w'.cell? ⟨g, o + k * 2 + 1, none⟩ = some (.string (ea es k).v) := fun w' hx => by
        rw [(hbd.trans (hx.mono hbd.size)).cell (p := ⟨g, o + k * 2 + 1, none⟩) l0]; exact p1
      have q2 : ∀ w', Ext W w' → w'.cell? ⟨g2, o2 + k * 2, none⟩ = some (.string (ea es k).k) := fun w' hx => by
        rw [(hbd.trans (hx.mono hbd.size)).cell (p := ⟨g2, o2 + k * 2, none⟩) l1]; exact p2
      have q3 : ∀ w', Ext W w' → w'.cell? ⟨g2, o2 + k * 2 + 1, none⟩ = some (.string (ea es k).v) := fun w' hx => by
        rw [(hbd.trans (hx.mono hbd.size)).cell (p := ⟨g2, o2 + k * 2 + 1, none⟩) l1]; exact p3
      have HW := Lib.hid hW
      have HB2 := Lib.hid (hB.out.trans (hbd.mono hB.out.size))
      generalize ea es k = y at *
      obtain ⟨y0, y1⟩ := y
      dsimp only at q0 q1 q2 q3
      have i1 : (0 : Int) ≤ (k : Int) := by omega
      have i2 : (k : Int) < (n : Int) := by omega
      have z0 : IntKind.i64.wrap (k : Int) = (k : Int) := by rw [IntKind.wrap_i64]; omega
      clear p0 p1 p2 p3 hcell hcell2 l0 l1 hbd hW hB
      go_wp2_with fail
      refine wp_region_gr [(0, true), (1, true), (2, true), (3, true), (4, true), (5, true), (6, true), (7, true), (8, true)] (by kernel_rfl) (by kernel_rfl) (by kernel_rfl) (by kernel_rfl) (fun _ _ _ _ _ h => h) ?_
      rw [HW.out]
      iterate 9 (refine wpGr_read (o := ⟨_, _, _, _, _, _⟩) (v := ?_) rfl (by rfl) ?_ ?_; rotate_left; (intro w' hw'; go_simp; with_reducible rfl); simp only [Act.put, List.setIfInBounds_toArray, List.set_cons_zero, List.set_cons_succ])
      refine wpGr_done ?_
      clear q0 q1 q2 q3
      go_wp2_with fail
      go_roundw
      case rel => exact ⟨k + 1, by go_num, by omega, HB2⟩
      case measure => simp [intOf]; omega
    · obtain rfl : k = n := by omega
      go_wp2
      go_ret
      exact ⟨rfl, hB.out⟩
end Go.Proofs.YtimdlgjgoggaiaaDoor
