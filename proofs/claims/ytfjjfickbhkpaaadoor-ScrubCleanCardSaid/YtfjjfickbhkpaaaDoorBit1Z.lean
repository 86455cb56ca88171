/-
  bitset's may, bit, Has.
-/
import Derived.Test.YtfjjfickbhkpaaaDoorArrZ
import Derived.Test.YtfjjfickbhkpaaaDoorTurnZ
namespace Go.Proofs.YtfjjfickbhkpaaaDoor
open Go Go.RowKit

/-- Is a number in it. -/
def inB (f : Nat → Bool) (x : Int) : Bool := decide (0 ≤ x) && (decide (x < 1024) && f x.toNat)
theorem inB_nat (f : Nat → Bool) (n : Nat) (h : n < 1024) : inB f n = f n := by
  have h1 : decide (0 ≤ (n : Int)) = true := decide_eq_true (by omega)
  have h2 : decide ((n : Int) < 1024) = true := decide_eq_true (by omega)
  rw [inB, h1, h2]; simp
theorem inB_out (f : Nat → Bool) (x : Int) (h : x < 0 ∨ 1024 ≤ x) : inB f x = false := by
  unfold inB
  rcases h with h | h
  · rw [decide_eq_false (by omega)]; rfl
  · rw [decide_eq_false (show ¬ x < 1024 by omega)]; simp
theorem may_yes (n : Nat) (w : World) (h : n < 1024) : Calls Tryd.prog 22 #[.int .i64 n] w fun e w' => e = .returned (.bool true) ∧ w = w' := by
  have h1 : (n : Int) < 1024 := by omega
  go_enter Tryd.func22, Tryd.ntmps22
  go_wp2
  go_ret
  exact ⟨rfl, rfl⟩
theorem may_no (x : Int) (w : World) (h : x < 0 ∨ 1024 ≤ x) : Calls Tryd.prog 22 #[.int .i64 x] w fun e w' => e = .returned (.bool false) ∧ w = w' := by
  by_cases h0 : x < 0
  · have h1 : decide (0 ≤ x) = false := decide_eq_false (by omega)
    clear h h0
    go_enter Tryd.func22, Tryd.ntmps22
    go_wp2
    go_ret
    exact ⟨rfl, rfl⟩
  · have h1 : decide (0 ≤ x) = true := decide_eq_true (by omega)
    have h2 : decide (x < 1024) = false := decide_eq_false (by omega)
    clear h h0
    go_enter Tryd.func22, Tryd.ntmps22
    go_wp2
    go_ret
    exact ⟨rfl, rfl⟩
theorem bit_any (n : Nat) (w : World) : Calls Tryd.prog 23 #[.int .i64 n] w fun e w' => e = .returned (.int .u64 (2 ^ (n % 64) : Nat)) ∧ w = w' := by
  have e1 : (n : Int).tmod 64 = ((n % 64 : Nat) : Int) := rfl
  have hk : n % 64 < 64 := by omega
  have e2 := wrap_pow (n % 64) hk
  generalize n % 64 = k at *
  have E2 := Lib.hid e2
  clear e2
  go_enter Tryd.func23, Tryd.ntmps23
  go_wp2
  go_ret
  exact ⟨by rw [← E2.out]; rfl, rfl⟩

theorem pow_lt64 (n : Nat) : 2 ^ (n % 64) < 18446744073709551616 := by
  have h : 2 ^ (n % 64) < 2 ^ 64 := Nat.pow_lt_pow_right (by decide) (by omega)
  have e : 2 ^ 64 = 18446744073709551616 := by decide
  omega
/-- The bit of a number, out of its word. -/
theorem and_bit (f : Nat → Bool) (n : Nat) : ∃ R : Nat, wd f (n / 64) &&& 2 ^ (n % 64) = R ∧ (((R : Int) == 0) = !f n) ∧ (((R : Int) != 0) = f n) := by
  refine ⟨_, rfl, ?_⟩
  have e := wd_bit f (n / 64) (n % 64) (by omega)
  rw [show 64 * (n / 64) + n % 64 = n by omega] at e
  rw [nat_bit, ← e, Nat.testBit_eq_decide_div_mod_eq]
  have hp : 0 < 2 ^ (n % 64) := Nat.pow_pos (by decide)
  generalize wd f (n / 64) / 2 ^ (n % 64) = u
  generalize 2 ^ (n % 64) = P at *
  rcases Nat.mod_two_eq_zero_or_one u with h | h
  · rw [h]; simp
  · rw [h]
    have h1 : (((1 * P : Nat) : Int) == 0) = false := by
      rw [beq_eq_false_iff_ne]
      omega
    exact ⟨by rw [h1]; rfl, by show (!(_ == _)) = _; rw [h1]; rfl⟩
/-- Has, a number that may be. -/
theorem has_yes (f : Nat → Bool) (n : Nat) (w : World) (h : n < 1024) : Calls Tryd.prog 12 #[.agg (sc f), .int .i64 n] w fun e w' => e = .returned (.bool (f n)) ∧ Below w.heap.size w w' := by
  have e1 : (n : Int).tdiv 64 = ((n / 64 : Nat) : Int) := rfl
  have hq : n / 64 < 16 := by omega
  have hq2 : ((n / 64 : Nat) : Int) < 16 := by omega
  have q0 : (0 : Int) ≤ ((n / 64 : Nat) : Int) := by omega
  have qw : IntKind.i64.wrap ((n / 64 : Nat) : Int) = ((n / 64 : Nat) : Int) := by rw [IntKind.wrap_i64]; omega
  have hbit := bit_any n
  obtain ⟨R, hR, _, hR2⟩ := and_bit f n
  have hv := wd_lt f (n / 64)
  have hP := pow_lt64 n
  have hcell := fun (w1 : World) (g1 : Nat) (hk : Blk w1 g1 TS (sc f)) => hk.word (n / 64) hq
  generalize 2 ^ (n % 64) = P at *
  generalize wd f (n / 64) = v at *
  generalize n / 64 = q at *
  have e2 : bits .and .u64 (v : Int) (P : Int) = (R : Int) := by rw [u64_and_nat v P hv hP, hR]
  have Hbit := Lib.hid hbit
  have Hcell := Lib.hid hcell
  clear hbit hcell hR hv hP
  go_enter Tryd.func12, Tryd.ntmps12
  go_wp2_with (first | (refine wpList_box_arr rfl TS (.tmp 0) rfl (sc f) (by rfl) ?_; intro g1 w1 hg1 hk1 hb1))
  refine wp_region_gr [(0, true), (1, false), (2, true), (3, true), (4, true), (5, true), (6, true), (7, true), (8, false), (9, true), (10, true), (11, true), (12, true)] (by kernel_rfl) (by kernel_rfl) (by kernel_rfl) (by kernel_rfl) (fun _ _ _ _ _ h => h) ?_
  have hb2 : Below w.heap.size w w1.drew := hb1.drew
  have hk2 : Blk w1.drew g1 TS (sc f) := hk1
  clear hb1 hk1
  generalize w1.drew = w2 at *
  have hc : ∀ w', Ext w2 w' → w'.cell? ⟨g1, q, none⟩ = some (.int .u64 v) := fun w' he => Hcell.out w' g1 (hk2.ext he)
  have Hk := Lib.hid hk2
  have Hb := Lib.hid hb2
  clear hk2 hb2
  iterate 1 (refine wpGr_read (o := ⟨_, _, _, _, _, _⟩) (v := ?_) rfl (by rfl) ?_ ?_; rotate_left; (intro w' hw'; go_simp; with_reducible rfl); simp only [Act.put, List.setIfInBounds_toArray, List.set_cons_zero, List.set_cons_succ])
  refine wpGr_call (o := ⟨_, _, _, _, _, _⟩) rfl (by rfl) (fun K hK => ?_)
  go_simp
  refine (may_yes n w2 h).mono ?_
  rintro e w3 ⟨rfl, rfl⟩
  refine hK _ _ (Ext.refl _) ?_
  clear hK K
  iterate 6 (refine wpGr_read (o := ⟨_, _, _, _, _, _⟩) (v := ?_) rfl (by rfl) ?_ ?_; rotate_left; (intro w' hw'; go_simp; with_reducible rfl); simp only [Act.put, List.setIfInBounds_toArray, List.set_cons_zero, List.set_cons_succ])
  refine wpGr_call (o := ⟨_, _, _, _, _, _⟩) rfl (by rfl) (fun K hK => ?_)
  go_simp
  refine (Hbit.out w2).mono ?_
  rintro e w3 ⟨rfl, rfl⟩
  refine hK _ _ (Ext.refl _) ?_
  clear hK K
  iterate 4 (refine wpGr_read (o := ⟨_, _, _, _, _, _⟩) (v := ?_) rfl (by rfl) ?_ ?_; rotate_left; (intro w' hw'; go_simp; with_reducible rfl); simp only [Act.put, List.setIfInBounds_toArray, List.set_cons_zero, List.set_cons_succ])
  refine wpGr_done ?_
  go_wp2
  go_ret
  exact ⟨rfl, Hb.out⟩
theorem has_no (f : Nat → Bool) (x : Int) (w : World) (h : x < 0 ∨ 1024 ≤ x) : Calls Tryd.prog 12 #[.agg (sc f), .int .i64 x] w fun e w' => e = .returned (.bool false) ∧ Below w.heap.size w w' := by
  have Hmay := Lib.hid (fun w => may_no x w h)
  clear h
  go_enter Tryd.func12, Tryd.ntmps12
  go_wp2_with (first | (refine wpList_box_arr rfl TS (.tmp 0) rfl (sc f) (by rfl) ?_; intro g1 w1 hg1 hk1 hb1))
  refine wp_region_gr [(0, true), (1, false), (2, true), (3, true), (4, true), (5, true), (6, true), (7, true), (8, false), (9, true), (10, true), (11, true), (12, true)] (by kernel_rfl) (by kernel_rfl) (by kernel_rfl) (by kernel_rfl) (fun _ _ _ _ _ h => h) ?_
  have hb2 : Below w.heap.size w w1.drew := hb1.drew
  clear hb1 hk1
  generalize w1.drew = w2 at *
  have Hb := Lib.hid hb2
  clear hb2
  iterate 1 (refine wpGr_read (o := ⟨_, _, _, _, _, _⟩) (v := ?_) rfl (by rfl) ?_ ?_; rotate_left; (intro w' hw'; go_simp; with_reducible rfl); simp only [Act.put, List.setIfInBounds_toArray, List.set_cons_zero, List.set_cons_succ])
  refine wpGr_call (o := ⟨_, _, _, _, _, _⟩) rfl (by rfl) (fun K hK => ?_)
  go_simp
  refine (Hmay.out w2).mono ?_
  rintro e w3 ⟨rfl, rfl⟩
  refine hK _ _ (Ext.refl _) ?_
  clear hK K
  iterate 1 (refine wpGr_read (o := ⟨_, _, _, _, _, _⟩) (v := ?_) rfl (by rfl) ?_ ?_; rotate_left; (intro w' hw'; go_simp; with_reducible rfl); simp only [Act.put, List.setIfInBounds_toArray, List.set_cons_zero, List.set_cons_succ])
  iterate 5 (refine wpGr_skip (o := ⟨_, _, _, _, _, _⟩) rfl (by rfl) ?_; simp only [Act.put, List.setIfInBounds_toArray, List.set_cons_zero, List.set_cons_succ])
  refine wpGr_skipCall (o := ⟨_, _, _, _, _, _⟩) rfl (by rfl) ?_
  simp only [Act.put, List.setIfInBounds_toArray, List.set_cons_zero, List.set_cons_succ]
  iterate 2 (refine wpGr_skip (o := ⟨_, _, _, _, _, _⟩) rfl (by rfl) ?_; simp only [Act.put, List.setIfInBounds_toArray, List.set_cons_zero, List.set_cons_succ])
  iterate 2 (refine wpGr_read (o := ⟨_, _, _, _, _, _⟩) (v := ?_) rfl (by rfl) ?_ ?_; rotate_left; (intro w' hw'; go_simp; with_reducible rfl); simp only [Act.put, List.setIfInBounds_toArray, List.set_cons_zero, List.set_cons_succ])
  refine wpGr_done ?_
  go_wp2
  go_ret
  exact ⟨rfl, Hb.out⟩
theorem bhas_any (f : Nat → Bool) (x : Int) (w : World) : Calls Tryd.prog 12 #[.agg (sc f), .int .i64 x] w fun e w' => e = .returned (.bool (inB f x)) ∧ Below w.heap.size w w' := by
  by_cases h : x < 0 ∨ 1024 ≤ x
  · rw [inB_out f x h]; exact has_no f x w h
  · obtain ⟨n, rfl⟩ : ∃ n : Nat, x = (n : Int) := ⟨x.toNat, by omega⟩
    rw [inB_nat f n (by omega)]; exact has_yes f n w (by omega)
end Go.Proofs.YtfjjfickbhkpaaaDoor
