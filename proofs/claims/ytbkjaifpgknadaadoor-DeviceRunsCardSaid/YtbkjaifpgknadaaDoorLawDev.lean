/-
  What the laws of a device share: two slices of numbers compared, a slice of pairs read.
-/
import Derived.Test.YtbkjaifpgknadaaDoorKeepMath
namespace Go.Proofs.YtbkjaifpgknadaaDoor
open Go Go.RowKit Go.Maps

/-- A slice that reads as numbers. -/
def ISrc (w : World) (a : Option Addr) (l : List Nat) : Prop := 0 < l.length → ∃ b o, a = some ⟨b, o, none⟩ ∧ ∀ i, i < l.length → w.cell? ⟨b, o + i, none⟩ = some (.int .i64 ((l.getD i 0 : Nat) : Int))
theorem own_isrc {w : World} {B : Nat} {v : Value} {l : List Nat} (h : w.ownsRow B IT 1 v l.length (ivs l)) : ∃ p c, v = .slice p l.length c ∧ ISrc w p l ∧ ∀ a, p = some a → B ≤ a.block := by
  rcases h.2 with ⟨rfl, h0⟩ | ⟨g, cap, cur, rfl, hbg, _⟩
  · exact ⟨none, 0, by rw [h0], fun h1 => by omega, fun _ h => by cases h⟩
  · refine ⟨_, cap, rfl, fun _ => ⟨g, 0, rfl, fun i hi => ?_⟩, fun a ha => by cases ha; exact hbg⟩
    have := h.cells (g := g) rfl i (.int .i64 ((l.getD i 0 : Nat) : Int)) (by simp [ivs, List.getElem?_map, List.getElem?_eq_getElem hi, List.getD])
    rw [addr_add] at this
    exact this
theorem ISrc.ext {w w' : World} {a : Option Addr} {l : List Nat} (h : ISrc w a l) (hb : Ext w w') : ISrc w' a l := fun h0 => by
  obtain ⟨b, o, rfl, hc⟩ := h h0
  exact ⟨b, o, rfl, fun i hi => by rw [hb.cell (p := ⟨b, o + i, none⟩) (block_lt_of_cell (hc i hi))]; exact hc i hi⟩
set_option maxRecDepth 100000 in
theorem ints_same (w : World) (a b : Option Addr) (l : List Nat) (c d : Nat) (hl : l.length ≤ 65536) (ha : ISrc w a l) (hb : ISrc w b l) :
    Calls Tryd.prog 29 #[.slice a l.length c, .slice b l.length d] w fun e w' => e = .returned (.bool true) ∧ Below w.heap.size w w' := by
  have HA := Lib.hid ha
  have HB := Lib.hid hb
  clear ha hb
  go_enter Tryd.func29, Tryd.ntmps29
  go_wp2
  go_loopw [5] (fun i wr => ∃ k : Nat, k ≤ l.length ∧ i = .int .i64 k ∧ Hid (Below w.heap.size w wr)) (fun i _ => l.length - (intOf i).toNat)
  case atStart => exact ⟨0, Nat.zero_le _, rfl, Below.refl _ _⟩
  case round =>
    obtain ⟨k, hk, rfl, hbl⟩ := hrel
    by_cases hlt : k < l.length
    · obtain ⟨b1, o1, rfl, hc1⟩ := HA.out.ext hbl.out (by omega)
      obtain ⟨b2, o2, rfl, hc2⟩ := HB.out.ext hbl.out (by omega)
      have k1 := hc1 k hlt
      have k2 := hc2 k hlt
      clear hc1 hc2
      generalize l.getD k 0 = X at *
      go_wp2
      refine wp_region_gr [(0, true), (1, true), (2, true), (3, true), (4, true), (5, true), (6, true), (7, true), (8, true)] (by kernel_rfl) (by kernel_rfl) (by kernel_rfl) (by kernel_rfl) (fun _ _ _ _ _ h => h) ?_
      have hbd : Below wr.heap.size wr wr.drew := Ext.drew wr
      have e1 : ∀ w', Ext wr.drew w' → w'.cell? ⟨b1, o1 + k, none⟩ = some (.int .i64 (X : Int)) := fun w' h => by rw [(Ext.trans hbd h).cell (p := ⟨b1, o1 + k, none⟩) (block_lt_of_cell k1)]; exact k1
      have e2 : ∀ w', Ext wr.drew w' → w'.cell? ⟨b2, o2 + k, none⟩ = some (.int .i64 (X : Int)) := fun w' h => by rw [(Ext.trans hbd h).cell (p := ⟨b2, o2 + k, none⟩) (block_lt_of_cell k2)]; exact k2
      iterate 9 (refine wpGr_read (o := ⟨_, _, _, _, _, _⟩) (v := ?_) rfl (by rfl) ?_ ?_; rotate_left; (intro w' hw'; go_simp; with_reducible rfl); simp only [Act.put, List.setIfInBounds_toArray, List.set_cons_zero, List.set_cons_succ])
      refine wpGr_done ?_
      have hbn : Hid (Below w.heap.size w wr.drew) := hbl.out.drew
      clear e1 e2 k1 k2 hbd hbl
      generalize wr.drew = w2 at *
      go_wp2
      go_roundw
      case rel => exact ⟨k + 1, by omega, by go_num, hbn⟩
      case measure => simp [intOf]; omega
    · obtain rfl : k = l.length := by omega
      go_wp2
      go_ret
      exact ⟨rfl, hbl.out⟩
/-- A slice that reads as pairs of bytes. -/
def PSrc (w : World) (a : Option Addr) (l : List (Nat × Nat)) : Prop := 0 < l.length → ∃ b o, a = some ⟨b, o, none⟩ ∧ ∀ i, i < l.length →
  w.cell? ⟨b, o + i * 2, none⟩ = some (.int .u8 (((l.getD i (0, 0)).1 : Nat) : Int)) ∧ w.cell? ⟨b, o + i * 2 + 1, none⟩ = some (.int .u8 (((l.getD i (0, 0)).2 : Nat) : Int))
theorem PSrc.below {w w' : World} {a : Option Addr} {l : List (Nat × Nat)} (h : PSrc w a l) (hb : Below w.heap.size w w') : PSrc w' a l := fun h0 => by
  obtain ⟨b, o, rfl, hc⟩ := h h0
  refine ⟨b, o, rfl, fun i hi => ?_⟩
  obtain ⟨h1, h2⟩ := hc i hi
  rw [hb.cell (p := ⟨b, o + i * 2, none⟩) (block_lt_of_cell h1), hb.cell (p := ⟨b, o + i * 2 + 1, none⟩) (block_lt_of_cell h2)]
  exact ⟨h1, h2⟩
theorem PSrc.lt {w : World} {b o : Nat} {l : List (Nat × Nat)} (h : PSrc w (some ⟨b, o, none⟩) l) (h0 : 0 < l.length) : b < w.heap.size := by
  obtain ⟨b', o', he, hc⟩ := h h0
  cases he
  exact block_lt_of_cell (hc 0 h0).1
theorem conv_any {E : TypeId} (w : World) (g n c : Nat) (l : List Nat) (hn : l.length = n) (h : Row w g E l) : (convert BT 9 (.slice (some ⟨g, 0, none⟩) n c)).run Tryd.prog w = .ok (.string (bstr l)) w :=
  run_convert_bytes_arg w BT U8 Tryd.underlying26 Tryd.underlying5 g 0 n c _ (by simpa using hn) (fun i hi => by
    rw [Nat.zero_add, h.cell i (by omega)]
    simp [show i < l.length by omega]) 9 Tryd.underlying9
/-! ### [32]byte -/
abbrev AT : TypeId := 57
theorem info_arr : (Tryd.prog.info? AT).map (·.size) = some 32 := by kernel_rfl
theorem under_arr : Tryd.prog.underlying AT = some (.array 32 U8) := Tryd.underlying57
theorem run_alloc_arr (w : World) : (Instr.alloc AT true (.tuple #[])).run Tryd.prog w = .ok (.pointer (some ⟨w.heap.size, 0, none⟩)) (w.alloc (.cells (bv (List.replicate 32 0)).toArray AT)) := by kernel_rfl
section
variable {ops : Array Oper} {rest : List Oper} {o : Oper} {a : Act} {w : World} {K : Act → World → Prop} {Q : Exit → Act → World → Prop}
theorem wpList_alloc_arr (hgd : o.guard = none) (ho : o.op = .alloc AT)
    (h : ∀ g w', w.heap.size ≤ g → Row w' g AT (List.replicate 32 0) → Below w.heap.size w w' → wpList Tryd.prog ops Q rest (a.put o.dst (.pointer (some ⟨g, 0, none⟩))) w') : wpList Tryd.prog ops Q (o :: rest) a w := by
  refine wpList_plain hgd fun K hK => ?_
  have hk := hK _ _ (h w.heap.size (w.alloc (.cells (bv (List.replicate 32 0)).toArray AT)) (Nat.le_refl _) (heap_alloc_new _ _) ((Below.refl _ _).alloc (Nat.le_refl _) _))
  unfold Oper.wp execOp
  simp only [ho, Sem.run_bind, Sem.run_pure, Result.andThen_ok, run_alloc_arr]
  exact hk
theorem wpList_load_arr (hgd : o.guard = none) (x : Operand) (ho : o.op = .load AT x) (g : Nat) (l : List Nat) (hx : a.eval x = .pointer (some ⟨g, 0, none⟩)) (hg : Row w g AT l) (hl : l.length = 32)
    (h : wpList Tryd.prog ops Q rest (a.put o.dst (sec l)) w) : wpList Tryd.prog ops Q (o :: rest) a w :=
  wpList_load_row hgd AT x ho g hx AT _ _ _ hg under_arr rfl (by rw [info_arr, bv_size, hl]) h
theorem wpList_store_arr (hgd : o.guard = none) (x y : Operand) (ho : o.op = .store AT x y) (g : Nat) (l old : List Nat) (hx : a.eval x = .pointer (some ⟨g, 0, none⟩)) (hy : a.eval y = sec l) (hg : Row w g AT old) (hl : l.length = 32) (hold : old.length = 32)
    (h : ∀ w', Row w' g AT l → Turn (fun i => i = g) w w' → wpList Tryd.prog ops Q rest (a.put o.dst undef) w') : wpList Tryd.prog ops Q (o :: rest) a w := by
  refine wpList_plain hgd fun K hK => ?_
  have hk := hK _ _ (h (w.setRow g (bv l).toArray) (setRow_heap w g _ _ _ _ hg) ⟨rfl, rfl, rfl, by simp, fun i _ hne => setRow_other w g i _ hne⟩)
  exact wp_store_row AT x y ho g (bv l).toArray hx hy AT _ hg (by rw [info_arr, bv_size, hl]) (by rw [bv_size, bv_size, hl, hold]) (bv_all l) hk
end
theorem turn_set (w : World) (g i : Nat) (u : Value) : Turn (fun j => j = g) w (w.setCell ⟨g, i, none⟩ u) := (Turn.refl _ w).setCell _ (fun _ => rfl)
end Go.Proofs.YtbkjaifpgknadaaDoor
