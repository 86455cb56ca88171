/-
  Layer 2's sure: some answers at bytes that are written out.
-/
import Derived.Test.YthnlbabceeejiaaDoorNum
import Derived.Test.YthnlbabceeejiaaDoorCrc1
import Derived.Lib.SlBytesConst
namespace Go.Proofs.YthnlbabceeejiaaDoor
open Go.RowKit

theorem WorthIn.below {w w' : World} (h : WorthIn w) (hb : Below w.heap.size w w') : WorthIn w' := fun j hj => by
  have hc := h j hj
  have hlt : 0 < w.heap.size := by
    rcases Nat.lt_or_ge 0 w.heap.size with h1 | h1
    · exact h1
    · simp [World.cell?, Array.getElem?_eq_none h1] at hc
  rw [hb.cell (p := ⟨0, j, none⟩) hlt]; exact hc
theorem src_new (w : World) (E : TypeId) (fr : Nat × Nat) (l : List Nat) : Cs (w.alloc (.cells (bv l).toArray E fr)) w.heap.size 0 l := fun i hi => by
  have := bv_get l i hi
  rw [Nat.zero_add, World.cell?_alloc_mark]
  simpa using this
theorem sum_new (w : World) (E : TypeId) (fr : Nat × Nat) (g n : Nat) (arr : Array Value) (l : List Nat) (R : Nat) (hg : g = w.heap.size) (ha : arr = (bv l).toArray) (hn : l.length = n) (hl : n ≤ 600) (hb : B8 l) (hR : (more 0#32 l).toNat = R) (hT : WorthIn w) :
    Calls Tryd.prog 7 #[.slice (some ⟨g, 0, none⟩) n n] (w.alloc (.cells arr E fr)) fun e w' => e = .returned (.int .u32 R) ∧ Below w.heap.size w w' := by
  subst hg ha hn hR
  have hbw : Below w.heap.size w (w.alloc (.cells (bv l).toArray E fr)) := (Below.refl _ _).alloc (Nat.le_refl _) _
  refine (sum_any _ l.length l _ hb (by omega) (fun _ => ⟨_, _, rfl, src_new w E fr l⟩) (hT.below hbw)).mono ?_
  rintro e w' ⟨rfl, rfl⟩
  exact ⟨rfl, hbw⟩
theorem is_new (w : World) (E : TypeId) (fr : Nat × Nat) (g : Nat) (arr : Array Value) (l : List Nat) (R : Bool) (hg : g = w.heap.size) (ha : arr = (bv l).toArray) (hn : l.length = 4) (hb : B8 l) (hR : decide (numL l = (more 0#32 []).toNat) = R) (hT : WorthIn w) :
    Calls Tryd.prog 12 #[.slice (some ⟨g, 0, none⟩) 4 4] (w.alloc (.cells arr E fr)) fun e w' => e = .returned (.bool R) ∧ Below w.heap.size w w' := by
  subst hg ha hR
  have hbw : Below w.heap.size w (w.alloc (.cells (bv l).toArray E fr)) := (Below.refl _ _).alloc (Nat.le_refl _) _
  refine (is_long w.heap.size 0 4 [] l _ hn (by simp) (by omega) (src_new w E fr l) (by simpa using hb) (hT.below hbw)).mono ?_
  rintro e w' ⟨rfl, rfl⟩
  exact ⟨rfl, hbw⟩
theorem b8_of (l : List Nat) (h : (l.all fun x => decide (x < 256)) = true) : B8 l := fun x hx => of_decide_eq_true (List.all_eq_true.1 h x hx)
theorem noughts_two (w : World) (hT : WorthIn w) : Calls Tryd.prog 8 #[.int .u32 3251651376, .int .i64 2] w fun e w' => e = .returned (.tuple #[.int .u32 (more 0#32 [97, 0, 0]).toNat, .nilIface]) ∧ w = w' := by
  have h := noughts_in 3251651376#32 2 w (by omega) hT
  have e : more 3251651376#32 (List.replicate 2 0) = more 0#32 [97, 0, 0] := by decide +kernel
  rw [e] at h
  exact h
set_option maxHeartbeats 1000000 in
theorem sure_any (w : World) (hg : Hg w) (hT : WorthIn w) : Calls Tryd.prog 6 #[] w fun e w' => e = .returned (.bool true) ∧ Below w.heap.size w w' := by
  obtain ⟨R, hR⟩ : ∃ R, R = (more 0#32 [97, 0, 0]).toNat := ⟨_, rfl⟩
  have hRl : R < 4294967296 := by have := (more 0#32 [97, 0, 0]).isLt; omega
  have hnt := fun w => noughts_two w
  rw [← hR] at hnt
  have HR := Lib.hid hR
  have HN := Lib.hid hnt
  clear hnt hR
  have Hg0 := Lib.hid hg
  have HT := Lib.hid hT
  clear hg hT
  have kc := fun (w : World) (C : Array Value) (n c : Nat) => Lib.run_convert_bytes_const (P := Tryd.prog) w 22 5 C n c Tryd.underlying22 Tryd.underlying5
  go_enter Tryd.func6, Tryd.ntmps6
  go_wp2_with fail
  refine (sum_new w _ _ _ 1 _ [97] 3251651376 rfl rfl rfl (by omega) (b8_of _ (by decide)) (by decide +kernel) HT.out).mono ?_
  rintro e w1 ⟨rfl, hb1⟩
  go_wp2_with fail
  refine (HN.out w1 (HT.out.below hb1)).mono ?_
  rintro e w' ⟨rfl, rfl⟩
  go_wp2_with fail
  refine (noughts_arg 0 (-1) w1 (by omega)).mono ?_
  rintro e w' ⟨rfl, rfl⟩
  go_wp2_with fail
  refine (sum_new w1 _ _ _ 9 _ [49, 50, 51, 52, 53, 54, 55, 56, 57] 3808858755 (by simp) rfl rfl (by omega) (b8_of _ (by decide)) (by rw [more_digits]; rfl) (HT.out.below hb1)).mono ?_
  rintro e w2 ⟨rfl, hb2⟩
  have hb2' := Lib.hid (hb1.trans (hb2.mono hb1.size))
  clear hb2
  go_wp2_with fail
  refine (sum_new w2 _ _ _ 3 _ [97, 0, 0] R (by simp) rfl rfl (by omega) (b8_of _ (by decide)) HR.out.symm (HT.out.below hb2'.out)).mono ?_
  rintro e w3 ⟨rfl, hb3⟩
  have hb3' := Lib.hid (hb2'.out.trans (hb3.mono hb2'.out.size))
  clear hb3
  go_wp2_with fail
  refine (num_err 1 w3 (Hg0.out.below hb3'.out)).mono ?_
  rintro e w4 ⟨rfl, hb4⟩
  have hb4' := Lib.hid (hb3'.out.trans (hb4.mono hb3'.out.size))
  clear hb4
  go_wp2_with fail
  refine (is_new w4 _ _ _ _ [97, 98, 99, 100] false (by simp) rfl rfl (b8_of _ (by decide)) (by decide +kernel) (HT.out.below hb4'.out)).mono ?_
  rintro e w5 ⟨rfl, hb5⟩
  have hb5' := Lib.hid (hb4'.out.trans (hb5.mono hb4'.out.size))
  clear hb5
  go_wp2_with fail
  refine (is_new w5 _ _ _ _ [0, 0, 0, 0] true (by simp) rfl rfl (b8_of _ (by decide)) (by decide +kernel) (HT.out.below hb5'.out)).mono ?_
  rintro e w6 ⟨rfl, hb6⟩
  have hb6' := Lib.hid (hb5'.out.trans (hb6.mono hb5'.out.size))
  clear hb6
  go_wp2_with fail
  go_ret
  exact ⟨rfl, hb6'.out⟩
end Go.Proofs.YthnlbabceeejiaaDoor
