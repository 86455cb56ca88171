/-
  Layer 3's sure: some answers at bytes that are written out.
-/
import Derived.Test.YtcpekhfgkbigcaaDoorNum
import Derived.Test.YtcpekhfgkbigcaaDoorVar1
namespace Go.Proofs.YtcpekhfgkbigcaaDoor
open Go.RowKit

theorem src_new (w : World) (E : TypeId) (fr : Nat × Nat) (l : List Nat) : Cs (w.alloc (.cells (bv l).toArray E fr)) w.heap.size 0 l := fun i hi => by
  have := bv_get l i hi
  rw [Nat.zero_add, World.cell?_alloc_mark]
  simpa using this
theorem get_new (w : World) (E : TypeId) (fr : Nat × Nat) (g n : Nat) (arr : Array Value) (l : List Nat) (R : Value) (hg : g = w.heap.size) (ha : arr = (bv l).toArray) (hn : l.length = n) (hl : n ≤ 600) (hb : B8 l) (hR : gotV l = R) :
    Calls Tryd.prog 7 #[.slice (some ⟨g, 0, none⟩) n n] (w.alloc (.cells arr E fr)) fun e w' => e = .returned R ∧ Below w.heap.size w w' := by
  subst hg ha hn hR
  have hbw : Below w.heap.size w (w.alloc (.cells (bv l).toArray E fr)) := (Below.refl _ _).alloc (Nat.le_refl _) _
  refine (get_any _ l.length l _ hb (by omega) (fun _ => ⟨_, _, rfl, src_new w E fr l⟩)).mono ?_
  rintro e w' ⟨rfl, rfl⟩
  exact ⟨rfl, hbw⟩
theorem b8_of (l : List Nat) (h : (l.all fun x => decide (x < 256)) = true) : B8 l := fun x hx => of_decide_eq_true (List.all_eq_true.1 h x hx)
theorem gotV_of (l : List Nat) (v n f : Nat) (h : gt l = (v, n, f)) : gotV l = .tuple #[.int .u64 (v : Nat), .int .i64 (n : Nat), errV f] := by unfold gotV; rw [h]
theorem gt_a : gt [172, 2, 9] = (300, 2, 0) := by decide +kernel
theorem gt_b : gt [128, 0] = (0, 0, 3) := by decide +kernel
theorem gt_c : gt [128] = (0, 0, 6) := by decide +kernel
set_option maxHeartbeats 1000000 in
theorem sure_any (w : World) (hg : Hg w) : Calls Tryd.prog 6 #[] w fun e w' => e = .returned (.bool true) ∧ Below w.heap.size w w' := by
  have HG := Lib.hid hg
  clear hg
  go_enter Tryd.func6, Tryd.ntmps6
  go_wp2_with fail
  refine (get_new w _ _ _ _ _ [172, 2, 9] (.tuple #[.int .u64 300, .int .i64 2, .nilIface]) rfl rfl rfl (by simp) (b8_of _ (by decide)) (gotV_of _ _ _ _ gt_a)).mono ?_
  rintro e w1 ⟨rfl, hb1⟩
  go_wp2_with fail
  refine (get_new w1 _ _ _ _ _ [128, 0] (.tuple #[.int .u64 0, .int .i64 0, .iface 39 (.int .i64 3)]) rfl rfl rfl (by simp) (b8_of _ (by decide)) (gotV_of _ _ _ _ gt_b)).mono ?_
  rintro e w2 ⟨rfl, hb2⟩
  have hb2' := Lib.hid (hb1.trans (hb2.mono hb1.size))
  clear hb2
  go_wp2_with fail
  refine (get_new w2 _ _ _ _ _ [128] (.tuple #[.int .u64 0, .int .i64 0, .iface 39 (.int .i64 6)]) rfl rfl rfl (by simp) (b8_of _ (by decide)) (gotV_of _ _ _ _ gt_c)).mono ?_
  rintro e w3 ⟨rfl, hb3⟩
  have hb3' := Lib.hid (hb2'.out.trans (hb3.mono hb2'.out.size))
  clear hb3
  go_wp2_with fail
  refine (num_err 3 w3 (HG.out.below hb3'.out)).mono ?_
  rintro e w4 ⟨rfl, hb4⟩
  have hb4' := Lib.hid (hb3'.out.trans (hb4.mono hb3'.out.size))
  clear hb4
  go_wp2_with fail
  refine (num_err 6 w4 (HG.out.below hb4'.out)).mono ?_
  rintro e w5 ⟨rfl, hb5⟩
  have hb5' := Lib.hid (hb4'.out.trans (hb5.mono hb4'.out.size))
  clear hb5
  go_wp2_with fail
  refine (size_any 127 w5 (by omega)).mono ?_
  rintro e w' ⟨rfl, rfl⟩
  go_wp2_with fail
  refine (zig_any (-1) w5 (by omega) (by omega)).mono ?_
  rintro e w' ⟨rfl, rfl⟩
  go_wp2_with fail
  refine (zag_any 3 w5 (by omega)).mono ?_
  rintro e w' ⟨rfl, rfl⟩
  go_wp2_with fail
  go_ret
  exact ⟨rfl, hb5'.out⟩
end Go.Proofs.YtcpekhfgkbigcaaDoor
