/-
  What the law PlanFew stands on.
-/
import Derived.Test.YtdgladhfibfdlaaGreatDoorQPlanFew10
import Derived.Test.YtdgladhfibfdlaaGreatDoorQPlanFew01
import Derived.Test.YtdgladhfibfdlaaGreatDoorQPlanFew04
namespace Go.Proofs.YtdgladhfibfdlaaGreatDoor
open Go Go.RowKit
def outR (f : Nat → Bool) (x : Int) (m : Nat) : Bool := f m && !decide ((m : Int) = x)
theorem outR_out (f : Nat → Bool) (x : Int) (h : x < 0 ∨ 1024 ≤ x) : sc f = sc (outR f x) := sc_ext (fun m hm => by
  have : decide ((m : Int) = x) = false := decide_eq_false (by omega)
  unfold outR; rw [this]; simp)
theorem outR_put (f : Nat → Bool) (n : Nat) (h : n < 1024) (v P R : Nat) (hv : wd f (n / 64) = v) (hP : 2 ^ (n % 64) = P) (hR : v &&& (18446744073709551615 - P) = R) :
    (sc f).setIfInBounds (n / 64) (.int .u64 (R : Nat)) = sc (outR f n) := by
  refine sc_put f _ (n / 64) R (by omega) ?_ (fun m hm hne => ?_)
  · have hp := pow_lt64 n
    rw [← hR, ← hv, ← hP]
    refine wd_of (Nat.lt_of_le_of_lt Nat.and_le_left (wd_lt f _)) (fun i hi => ?_)
    rw [Nat.testBit_and, wd_bit f _ i hi, not_bit hp i hi, Nat.testBit_two_pow]
    have e : decide (n % 64 = i) = decide (((64 * (n / 64) + i : Nat) : Int) = (n : Int)) := by
      rw [Bool.eq_iff_iff, decide_eq_true_iff, decide_eq_true_iff]; omega
    unfold outR
    rw [e]
  · have : decide ((m : Int) = (n : Int)) = false := decide_eq_false (by omega)
    unfold outR; rw [this]; simp
set_option maxRecDepth 100000 in
theorem without_yes (f : Nat → Bool) (n : Nat) (w : World) (h : n < 1024) : Calls Tryz.prog 72 #[.agg (sc f), .int .i64 n] w fun e w' => e = .returned (.agg (sc (outR f n))) ∧ Below w.heap.size w w' := by
  have e1 : (n : Int).tdiv 64 = ((n / 64 : Nat) : Int) := rfl
  have hq : n / 64 < 16 := by omega
  have hq2 : ((n / 64 : Nat) : Int) < 16 := by omega
  have q0 : (0 : Int) ≤ ((n / 64 : Nat) : Int) := by omega
  have qw : IntKind.i64.wrap ((n / 64 : Nat) : Int) = ((n / 64 : Nat) : Int) := by rw [IntKind.wrap_i64]; omega
  have hbit := bit_any n
  have hv := wd_lt f (n / 64)
  have hP := pow_lt64 n
  have hcell := fun (w1 : World) (g1 : Nat) (hk : Blk w1 g1 TS (sc f)) => hk.word (n / 64) hq
  have hset := outR_put f n h
  have hmay := fun w => may_yes n w h
  have hblk := fun (w1 : World) (g1 : Nat) (hk : Blk w1 g1 TS (sc f)) (v : Value) => hk.set (n / 64) v
  obtain ⟨P, hPe⟩ : ∃ P, 2 ^ (n % 64) = P := ⟨_, rfl⟩
  obtain ⟨v, hve⟩ : ∃ v, wd f (n / 64) = v := ⟨_, rfl⟩
  obtain ⟨R, hR⟩ : ∃ R, v &&& (18446744073709551615 - P) = R := ⟨_, rfl⟩
  have hset2 := hset v P R hve hPe hR
  rw [hPe] at hP hbit
  rw [hve] at hv hcell
  generalize n / 64 = q at *
  have e2 : bits .andNot .u64 (v : Int) (P : Int) = (R : Int) := by rw [u64_andNot_nat v P hv hP, hR]
  have Hbit := Lib.hid hbit
  have Hcell := Lib.hid hcell
  have Hset := Lib.hid hset2
  have Hmay := Lib.hid hmay
  have Hblk := Lib.hid hblk
  generalize outR f n = F at *
  clear hbit hcell hR hv hP hset hset2 hPe hve hmay h hblk
  go_enter Tryz.func72, Tryz.ntmps72
  go_wp2_with (first | (refine wpList_box_arr rfl TS (.tmp 0) rfl (sc f) (by rfl) ?_; intro g1 w1 hg1 hk1 hb1) | (refine wpList_alloc_arr rfl TS rfl arrz_TS ?_; intro g2 w2 hg2 hk2 hb2))
  have Hg : Hid (w.heap.size ≤ g1 ∧ w.heap.size ≤ g2 ∧ g1 ≠ g2) := ⟨hg1, Nat.le_trans hb1.size hg2, by have := hk1.lt; omega⟩
  have Hb : Hid (Below w.heap.size w w2) := hb1.trans (hb2.mono hb1.size)
  have Hk1 : Hid (Blk w2 g1 TS (sc f)) := hk1.ext hb2
  have Hk2 := Lib.hid hk2
  clear hg1 hg2 hb1 hb2 hk1 hk2
  refine (Hmay.out w2).mono ?_
  rintro e w3 ⟨rfl, rfl⟩
  go_wp2_with fail
  refine wp_region_gs (F := fun i => i = g1) (.rd 0 (.rd 1 (.rd 2 (.rd 4 (.two 3 (.call 5 (.rd 6 (.rd 7 (.call 8 .done)))) 5 (.call 3 (.rd 6 (.rd 7 (.call 8 .done))))))))) (by kernel_rfl) (by kernel_rfl) (by kernel_rfl) (by kernel_rfl) (fun _ _ _ _ _ h => h) ?_
  have HB : Hid (Below w.heap.size w w2.drew) := Hb.out.drew
  have HK1 : Hid (Blk w2.drew g1 TS (sc f)) := Hk1.out
  have HK2 : Hid (Blk w2.drew g2 TS (sc (fun _ => false))) := Hk2.out
  clear Hb Hk1 Hk2
  generalize w2.drew = w3 at *
  have c0 := Hcell.out w3 g1 HK1.out
  have f0 := HK1.out.fz q
  have HT : Hid (Turn (fun i => i = g1) w3 (w3.setCell ⟨g1, q, none⟩ (.int .u64 R))) := (Turn.refl _ _).setCell _ (fun _ => rfl)
  have HK1b : Hid (Blk (w3.setCell ⟨g1, q, none⟩ (.int .u64 R)) g1 TS (sc F)) := by
    rw [← Hset.out]; exact Hblk.out w3 g1 HK1.out _
  have HK2b : Hid (Blk (w3.setCell ⟨g1, q, none⟩ (.int .u64 R)) g2 TS (sc (fun _ => false))) := HK2.out.turn HT.out (fun h => Hg.out.2.2 h.symm)
  have HBb : Hid (Below w.heap.size w (w3.setCell ⟨g1, q, none⟩ (.int .u64 R))) := HB.out.setCell Hg.out.1 _
  clear HK1 HK2 HB
  iterate 4 (refine wpGs_read (o := ⟨_, _, _, _, _, _⟩) (v := ?_) rfl (by rfl) ?_ ?_; rotate_left; (intro w' hw'; go_simp; with_reducible rfl); simp only [Act.put, List.setIfInBounds_toArray, List.set_cons_zero, List.set_cons_succ])
  refine ⟨?_, ?_⟩
  · skip
    refine stepS_call (o := ⟨_, _, _, _, _, _⟩) rfl (by rfl) (fun K hK => ?_)
    go_simp
    refine hK _ _ (Turn.refl _ _) ?_
    clear hK K
    refine stepS_call (o := ⟨_, _, _, _, _, _⟩) rfl (by rfl) (fun K hK => ?_)
    go_simp
    refine (Hbit.out w3).mono ?_
    rintro e w4 ⟨rfl, rfl⟩
    refine hK _ _ (Turn.refl _ _) ?_
    clear hK K
    iterate 2 (refine wpGs_read (o := ⟨_, _, _, _, _, _⟩) (v := ?_) rfl (by rfl) ?_ ?_; rotate_left; (intro w' hw'; go_simp; with_reducible rfl); simp only [Act.put, List.setIfInBounds_toArray, List.set_cons_zero, List.set_cons_succ])
    refine stepS_call (o := ⟨_, _, _, _, _, _⟩) rfl (by rfl) (fun K hK => ?_)
    go_simp
    refine hK _ _ HT.out ?_
    clear hK K c0 f0 HT
    generalize w3.setCell ⟨g1, q, none⟩ (.int .u64 R) = w4 at *
    refine wpGs_done ?_
    go_wp2_with (first | (refine wpList_load_sc rfl TS (.tmp 2) rfl g1 F TS (by rfl) arr_TS HK1b.out ?_) | (refine wpList_store_sc rfl TS (.tmp 4) (.tmp 15) rfl g2 F _ TS (by rfl) (by rfl) arr_TS HK2b.out ?_; intro w5 hk5 ht5 _))
    refine bodyPost_ret (v := .agg (sc F)) ?_ rfl ?_
    · exact results_sc arr_TS rfl _ _ g2 F (by rfl) hk5
    · exact ⟨rfl, HBb.out.trans (ht5.below HBb.out.size (fun i hi => by subst hi; exact Hg.out.2.1))⟩
  · skip
    refine stepS_call (o := ⟨_, _, _, _, _, _⟩) rfl (by rfl) (fun K hK => ?_)
    go_simp
    refine (Hbit.out w3).mono ?_
    rintro e w4 ⟨rfl, rfl⟩
    refine hK _ _ (Turn.refl _ _) ?_
    clear hK K
    refine stepS_call (o := ⟨_, _, _, _, _, _⟩) rfl (by rfl) (fun K hK => ?_)
    go_simp
    refine hK _ _ (Turn.refl _ _) ?_
    clear hK K
    iterate 2 (refine wpGs_read (o := ⟨_, _, _, _, _, _⟩) (v := ?_) rfl (by rfl) ?_ ?_; rotate_left; (intro w' hw'; go_simp; with_reducible rfl); simp only [Act.put, List.setIfInBounds_toArray, List.set_cons_zero, List.set_cons_succ])
    refine stepS_call (o := ⟨_, _, _, _, _, _⟩) rfl (by rfl) (fun K hK => ?_)
    go_simp
    refine hK _ _ HT.out ?_
    clear hK K c0 f0 HT
    generalize w3.setCell ⟨g1, q, none⟩ (.int .u64 R) = w4 at *
    refine wpGs_done ?_
    go_wp2_with (first | (refine wpList_load_sc rfl TS (.tmp 2) rfl g1 F TS (by rfl) arr_TS HK1b.out ?_) | (refine wpList_store_sc rfl TS (.tmp 4) (.tmp 15) rfl g2 F _ TS (by rfl) (by rfl) arr_TS HK2b.out ?_; intro w5 hk5 ht5 _))
    refine bodyPost_ret (v := .agg (sc F)) ?_ rfl ?_
    · exact results_sc arr_TS rfl _ _ g2 F (by rfl) hk5
    · exact ⟨rfl, HBb.out.trans (ht5.below HBb.out.size (fun i hi => by subst hi; exact Hg.out.2.1))⟩
theorem without_no (f : Nat → Bool) (x : Int) (w : World) (h : x < 0 ∨ 1024 ≤ x) : Calls Tryz.prog 72 #[.agg (sc f), .int .i64 x] w fun e w' => e = .returned (.agg (sc f)) ∧ Below w.heap.size w w' := by
  have Hmay := Lib.hid (fun w => may_no x w h)
  clear h
  go_enter Tryz.func72, Tryz.ntmps72
  go_wp2_with (first | (refine wpList_box_arr rfl TS (.tmp 0) rfl (sc f) (by rfl) ?_; intro g1 w1 hg1 hk1 hb1) | (refine wpList_alloc_arr rfl TS rfl arrz_TS ?_; intro g2 w2 hg2 hk2 hb2))
  have Hg : Hid (w.heap.size ≤ g1 ∧ w.heap.size ≤ g2 ∧ g1 ≠ g2) := ⟨hg1, Nat.le_trans hb1.size hg2, by have := hk1.lt; omega⟩
  have Hb : Hid (Below w.heap.size w w2) := hb1.trans (hb2.mono hb1.size)
  have Hk1 : Hid (Blk w2 g1 TS (sc f)) := hk1.ext hb2
  have Hk2 := Lib.hid hk2
  clear hg1 hg2 hb1 hb2 hk1 hk2
  refine (Hmay.out w2).mono ?_
  rintro e w3 ⟨rfl, rfl⟩
  go_wp2_with (first | (refine wpList_load_sc rfl TS (.tmp 2) rfl g1 f TS (by rfl) arr_TS Hk1.out ?_) | (refine wpList_store_sc rfl TS (.tmp 4) (.tmp 15) rfl g2 f _ TS (by rfl) (by rfl) arr_TS Hk2.out ?_; intro w4 hk4 ht4 _))
  refine bodyPost_ret (v := .agg (sc f)) ?_ rfl ?_
  · exact results_sc arr_TS rfl _ _ g2 f (by rfl) hk4
  · exact ⟨rfl, Hb.out.trans (ht4.below Hb.out.size (fun i hi => by subst hi; exact Hg.out.2.1))⟩
theorem without_any (f : Nat → Bool) (x : Int) (w : World) : Calls Tryz.prog 72 #[.agg (sc f), .int .i64 x] w fun e w' => e = .returned (.agg (sc (outR f x))) ∧ Below w.heap.size w w' := by
  by_cases h : x < 0 ∨ 1024 ≤ x
  · rw [← outR_out f x h]; exact without_no f x w h
  · obtain ⟨n, rfl⟩ : ∃ n : Nat, x = (n : Int) := ⟨x.toNat, by omega⟩
    exact without_yes f n w (by omega)
end Go.Proofs.YtdgladhfibfdlaaGreatDoor
namespace Go.Proofs.YtdgladhfibfdlaaGreatDoor
open Go Go.RowKit
set_option maxRecDepth 100000 in
theorem bless_any (f g : Nat → Bool) (w : World) : Calls Tryz.prog 10 #[.agg (sc f), .agg (sc g)] w fun e w' => e = .returned (.agg (sc (fun m => f m && !g m))) ∧ Below w.heap.size w w' := by
  have H := Lib.hid (mix_all (fun a b => a && !b) f g)
  go_enter Tryz.func10, Tryz.ntmps10
  go_wp2_with (first
    | (show wpList _ _ _ (⟨some 2, _, _, _, _, _⟩ :: _) _ _; refine wpList_box_arr rfl TS (.tmp 0) rfl (sc f) (by rfl) ?_; intro g1 w1 hg1 hk1 hb1)
    | (show wpList _ _ _ (⟨some 3, _, _, _, _, _⟩ :: _) _ _; refine wpList_box_arr rfl TS (.tmp 1) rfl (sc g) (by rfl) ?_; intro g2 w2 hg2 hk2 hb2)
    | (refine wpList_alloc_arr rfl TS rfl arrz_TS ?_; intro g3 w3 hg3 hk3 hb3))
  have Hg : Hid (w.heap.size ≤ g1 ∧ w.heap.size ≤ g3 ∧ g2 ≠ g1 ∧ g3 ≠ g1) := ⟨hg1, by have := hb1.size; have := hb2.size; omega, by have := hk1.lt; omega, by have := hk1.lt; have := hb2.size; omega⟩
  have Hb : Hid (Below w.heap.size w w3) := (hb1.trans (hb2.mono hb1.size)).trans (hb3.mono (hb1.trans (hb2.mono hb1.size)).size)
  have Hk : Hid (Blk w3 g1 TS (sc f) ∧ Blk w3 g2 TS (sc g) ∧ Blk w3 g3 TS (sc (fun _ => false))) := ⟨(hk1.ext hb2).ext hb3, hk2.ext hb3, hk3⟩
  clear hg1 hg2 hg3 hk1 hk2 hk3 hb1 hb2 hb3
  go_loopw [5, 6] (fun _ i wr => ∃ k : Nat, i = .int .i64 k ∧ k ≤ 16 ∧ Hid (Blk wr g1 TS (sc (mixR (fun a b => a && !b) f g k)) ∧ Blk wr g2 TS (sc g) ∧ Blk wr g3 TS (sc (fun _ => false))) ∧ Hid (Below w.heap.size w wr)) (fun _ i _ => 16 - (intOf i).toNat)
  case atStart => exact ⟨0, rfl, by omega, by rw [mix_zero]; exact Hk, Hb⟩
  case round =>
    obtain ⟨k, rfl, hk, HK, HB⟩ := hrel
    by_cases hlt : k < 16
    · have hlt2 : (k : Int) < 16 := by omega
      have k0 : (0 : Int) ≤ (k : Int) := by omega
      have qw : IntKind.i64.wrap (k : Int) = (k : Int) := by rw [IntKind.wrap_i64]; omega
      have hstep := mix_step (fun a b => a && !b) f g k _ hlt (wd_less f g k)
      have hword := mix_word (fun a b => a && !b) f g k
      obtain ⟨F2, hF2⟩ : ∃ F2, mixR (fun a b => a && !b) f g (k + 1) = F2 := ⟨_, rfl⟩
      rw [hF2] at hstep
      have HF2 := Lib.hid hF2
      clear hF2
      generalize mixR (fun a b => a && !b) f g k = F1 at *
      obtain ⟨R, hR⟩ : ∃ R, wd f k &&& (18446744073709551615 - wd g k) = R := ⟨_, rfl⟩
      have e2 : bits .andNot .u64 (wd f k : Nat) (wd g k : Nat) = (R : Int) := by rw [u64_andNot_nat _ _ (wd_lt f k) (wd_lt g k), hR]
      have hc1 := fun (w1 : World) (h : Blk w1 g1 TS (sc F1)) => h.word k hlt
      have hc2 := fun (w1 : World) (h : Blk w1 g2 TS (sc g)) => h.word k hlt
      rw [hword] at hc1
      rw [hR] at hstep
      generalize wd f k = v1 at *
      generalize wd g k = v2 at *
      have Hc := Lib.hid (And.intro hc1 hc2)
      have Hs := Lib.hid hstep
      clear hstep hword hR hc1 hc2 H
      go_wp2_with fail
      refine wp_region_gt (F := fun i => i = g1) [(0, true), (1, true), (3, true), (4, true), (5, true), (2, false), (6, true), (7, true), (8, false)] (by kernel_rfl) (by kernel_rfl) (by kernel_rfl) (by kernel_rfl) (fun _ _ _ _ _ h => h) ?_
      have HB2 : Hid (Below w.heap.size w wr.drew) := HB.out.drew
      have HK2 : Hid (Blk wr.drew g1 TS (sc F1) ∧ Blk wr.drew g2 TS (sc g) ∧ Blk wr.drew g3 TS (sc (fun _ => false))) := HK.out
      clear HB HK
      generalize wr.drew = w3 at *
      have c0 := Hc.out.1 w3 HK2.out.1
      have f0 := HK2.out.1.fz k
      have c1 : ∀ w', Turn (fun i => i = g1) w3 w' → w'.cell? ⟨g2, k, none⟩ = some (.int .u64 v2) := fun w' ht => Hc.out.2 w' (HK2.out.2.1.turn ht Hg.out.2.2.1)
      have HT : Hid (Turn (fun i => i = g1) w3 (w3.setCell ⟨g1, k, none⟩ (.int .u64 R))) := (Turn.refl _ _).setCell _ (fun _ => rfl)
      have HK3 : Hid (Blk (w3.setCell ⟨g1, k, none⟩ (.int .u64 R)) g1 TS (sc F2) ∧ Blk (w3.setCell ⟨g1, k, none⟩ (.int .u64 R)) g2 TS (sc g) ∧ Blk (w3.setCell ⟨g1, k, none⟩ (.int .u64 R)) g3 TS (sc (fun _ => false))) := ⟨by rw [← Hs.out]; exact HK2.out.1.set k _, HK2.out.2.1.turn HT.out Hg.out.2.2.1, HK2.out.2.2.turn HT.out Hg.out.2.2.2⟩
      have HB3 : Hid (Below w.heap.size w (w3.setCell ⟨g1, k, none⟩ (.int .u64 R))) := HB2.out.setCell Hg.out.1 _
      clear HK2 HB2
      iterate 5 (refine wpGt_read (o := ⟨_, _, _, _, _, _⟩) (v := ?_) rfl (by rfl) ?_ ?_; rotate_left; (intro w' hw'; go_simp; with_reducible rfl); simp only [Act.put, List.setIfInBounds_toArray, List.set_cons_zero, List.set_cons_succ])
      refine wpGt_call (o := ⟨_, _, _, _, _, _⟩) rfl (by rfl) (fun K hK => ?_)
      go_simp
      refine hK _ _ (Turn.refl _ _) ?_
      clear hK K
      iterate 2 (refine wpGt_read (o := ⟨_, _, _, _, _, _⟩) (v := ?_) rfl (by rfl) ?_ ?_; rotate_left; (intro w' hw'; go_simp; with_reducible rfl); simp only [Act.put, List.setIfInBounds_toArray, List.set_cons_zero, List.set_cons_succ])
      refine wpGt_call (o := ⟨_, _, _, _, _, _⟩) rfl (by rfl) (fun K hK => ?_)
      go_simp
      refine hK _ _ HT.out ?_
      clear hK K c0 f0 HT c1
      generalize w3.setCell ⟨g1, k, none⟩ (.int .u64 R) = w4 at *
      refine wpGt_done ?_
      go_wp2
      go_roundw
      case rel => exact ⟨k + 1, by go_num, by omega, by rw [HF2.out]; exact HK3, HB3⟩
      case measure => simp [intOf]; omega
    · obtain rfl : k = 16 := by omega
      have HK2 := Lib.hid HK.out
      rw [H.out] at HK2
      clear HK
      go_wp2_with (first | (refine wpList_load_sc rfl TS (.tmp 2) rfl g1 _ TS (by rfl) arr_TS HK2.out.1 ?_) | (refine wpList_store_sc rfl TS (.tmp 4) (.tmp 18) rfl g3 _ _ TS (by rfl) (by rfl) arr_TS HK2.out.2.2 ?_; intro w5 hk5 ht5 _))
      refine bodyPost_ret (v := .agg (sc (fun m => f m && !g m))) ?_ rfl ?_
      · exact results_sc arr_TS rfl _ _ g3 _ (by rfl) hk5
      · exact ⟨rfl, HB.out.trans (ht5.below HB.out.size (fun i hi => by subst hi; exact Hg.out.2.1))⟩
end Go.Proofs.YtdgladhfibfdlaaGreatDoor
namespace Go.Proofs.YtdgladhfibfdlaaGreatDoor
open Go Go.RowKit
set_option maxRecDepth 100000 in
theorem either_any (f g : Nat → Bool) (w : World) : Calls Tryz.prog 45 #[.agg (sc f), .agg (sc g)] w fun e w' => e = .returned (.agg (sc (fun m => f m || g m))) ∧ Below w.heap.size w w' := by
  have H := Lib.hid (mix_all (fun a b => a || b) f g)
  go_enter Tryz.func45, Tryz.ntmps45
  go_wp2_with (first
    | (show wpList _ _ _ (⟨some 2, _, _, _, _, _⟩ :: _) _ _; refine wpList_box_arr rfl TS (.tmp 0) rfl (sc f) (by rfl) ?_; intro g1 w1 hg1 hk1 hb1)
    | (show wpList _ _ _ (⟨some 3, _, _, _, _, _⟩ :: _) _ _; refine wpList_box_arr rfl TS (.tmp 1) rfl (sc g) (by rfl) ?_; intro g2 w2 hg2 hk2 hb2)
    | (refine wpList_alloc_arr rfl TS rfl arrz_TS ?_; intro g3 w3 hg3 hk3 hb3))
  have Hg : Hid (w.heap.size ≤ g1 ∧ w.heap.size ≤ g3 ∧ g2 ≠ g1 ∧ g3 ≠ g1) := ⟨hg1, by have := hb1.size; have := hb2.size; omega, by have := hk1.lt; omega, by have := hk1.lt; have := hb2.size; omega⟩
  have Hb : Hid (Below w.heap.size w w3) := (hb1.trans (hb2.mono hb1.size)).trans (hb3.mono (hb1.trans (hb2.mono hb1.size)).size)
  have Hk : Hid (Blk w3 g1 TS (sc f) ∧ Blk w3 g2 TS (sc g) ∧ Blk w3 g3 TS (sc (fun _ => false))) := ⟨(hk1.ext hb2).ext hb3, hk2.ext hb3, hk3⟩
  clear hg1 hg2 hg3 hk1 hk2 hk3 hb1 hb2 hb3
  go_loopw [5, 6] (fun _ i wr => ∃ k : Nat, i = .int .i64 k ∧ k ≤ 16 ∧ Hid (Blk wr g1 TS (sc (mixR (fun a b => a || b) f g k)) ∧ Blk wr g2 TS (sc g) ∧ Blk wr g3 TS (sc (fun _ => false))) ∧ Hid (Below w.heap.size w wr)) (fun _ i _ => 16 - (intOf i).toNat)
  case atStart => exact ⟨0, rfl, by omega, by rw [mix_zero]; exact Hk, Hb⟩
  case round =>
    obtain ⟨k, rfl, hk, HK, HB⟩ := hrel
    by_cases hlt : k < 16
    · have hlt2 : (k : Int) < 16 := by omega
      have k0 : (0 : Int) ≤ (k : Int) := by omega
      have qw : IntKind.i64.wrap (k : Int) = (k : Int) := by rw [IntKind.wrap_i64]; omega
      have hstep := mix_step (fun a b => a || b) f g k _ hlt (wd_or f g k)
      have hword := mix_word (fun a b => a || b) f g k
      obtain ⟨F2, hF2⟩ : ∃ F2, mixR (fun a b => a || b) f g (k + 1) = F2 := ⟨_, rfl⟩
      rw [hF2] at hstep
      have HF2 := Lib.hid hF2
      clear hF2
      generalize mixR (fun a b => a || b) f g k = F1 at *
      obtain ⟨R, hR⟩ : ∃ R, wd f k ||| wd g k = R := ⟨_, rfl⟩
      have e2 : bits .or .u64 (wd f k : Nat) (wd g k : Nat) = (R : Int) := by rw [u64_or_nat _ _ (wd_lt f k) (wd_lt g k), hR]
      have hc1 := fun (w1 : World) (h : Blk w1 g1 TS (sc F1)) => h.word k hlt
      have hc2 := fun (w1 : World) (h : Blk w1 g2 TS (sc g)) => h.word k hlt
      rw [hword] at hc1
      rw [hR] at hstep
      generalize wd f k = v1 at *
      generalize wd g k = v2 at *
      have Hc := Lib.hid (And.intro hc1 hc2)
      have Hs := Lib.hid hstep
      clear hstep hword hR hc1 hc2 H
      go_wp2_with fail
      refine wp_region_gt (F := fun i => i = g1) [(0, true), (1, true), (3, true), (4, true), (5, true), (2, false), (6, true), (7, true), (8, false)] (by kernel_rfl) (by kernel_rfl) (by kernel_rfl) (by kernel_rfl) (fun _ _ _ _ _ h => h) ?_
      have HB2 : Hid (Below w.heap.size w wr.drew) := HB.out.drew
      have HK2 : Hid (Blk wr.drew g1 TS (sc F1) ∧ Blk wr.drew g2 TS (sc g) ∧ Blk wr.drew g3 TS (sc (fun _ => false))) := HK.out
      clear HB HK
      generalize wr.drew = w3 at *
      have c0 := Hc.out.1 w3 HK2.out.1
      have f0 := HK2.out.1.fz k
      have c1 : ∀ w', Turn (fun i => i = g1) w3 w' → w'.cell? ⟨g2, k, none⟩ = some (.int .u64 v2) := fun w' ht => Hc.out.2 w' (HK2.out.2.1.turn ht Hg.out.2.2.1)
      have HT : Hid (Turn (fun i => i = g1) w3 (w3.setCell ⟨g1, k, none⟩ (.int .u64 R))) := (Turn.refl _ _).setCell _ (fun _ => rfl)
      have HK3 : Hid (Blk (w3.setCell ⟨g1, k, none⟩ (.int .u64 R)) g1 TS (sc F2) ∧ Blk (w3.setCell ⟨g1, k, none⟩ (.int .u64 R)) g2 TS (sc g) ∧ Blk (w3.setCell ⟨g1, k, none⟩ (.int .u64 R)) g3 TS (sc (fun _ => false))) := ⟨by rw [← Hs.out]; exact HK2.out.1.set k _, HK2.out.2.1.turn HT.out Hg.out.2.2.1, HK2.out.2.2.turn HT.out Hg.out.2.2.2⟩
      have HB3 : Hid (Below w.heap.size w (w3.setCell ⟨g1, k, none⟩ (.int .u64 R))) := HB2.out.setCell Hg.out.1 _
      clear HK2 HB2
      iterate 5 (refine wpGt_read (o := ⟨_, _, _, _, _, _⟩) (v := ?_) rfl (by rfl) ?_ ?_; rotate_left; (intro w' hw'; go_simp; with_reducible rfl); simp only [Act.put, List.setIfInBounds_toArray, List.set_cons_zero, List.set_cons_succ])
      refine wpGt_call (o := ⟨_, _, _, _, _, _⟩) rfl (by rfl) (fun K hK => ?_)
      go_simp
      refine hK _ _ (Turn.refl _ _) ?_
      clear hK K
      iterate 2 (refine wpGt_read (o := ⟨_, _, _, _, _, _⟩) (v := ?_) rfl (by rfl) ?_ ?_; rotate_left; (intro w' hw'; go_simp; with_reducible rfl); simp only [Act.put, List.setIfInBounds_toArray, List.set_cons_zero, List.set_cons_succ])
      refine wpGt_call (o := ⟨_, _, _, _, _, _⟩) rfl (by rfl) (fun K hK => ?_)
      go_simp
      refine hK _ _ HT.out ?_
      clear hK K c0 f0 HT c1
      generalize w3.setCell ⟨g1, k, none⟩ (.int .u64 R) = w4 at *
      refine wpGt_done ?_
      go_wp2
      go_roundw
      case rel => exact ⟨k + 1, by go_num, by omega, by rw [HF2.out]; exact HK3, HB3⟩
      case measure => simp [intOf]; omega
    · obtain rfl : k = 16 := by omega
      have HK2 := Lib.hid HK.out
      rw [H.out] at HK2
      clear HK
      go_wp2_with (first | (refine wpList_load_sc rfl TS (.tmp 2) rfl g1 _ TS (by rfl) arr_TS HK2.out.1 ?_) | (refine wpList_store_sc rfl TS (.tmp 4) (.tmp 18) rfl g3 _ _ TS (by rfl) (by rfl) arr_TS HK2.out.2.2 ?_; intro w5 hk5 ht5 _))
      refine bodyPost_ret (v := .agg (sc (fun m => f m || g m))) ?_ rfl ?_
      · exact results_sc arr_TS rfl _ _ g3 _ (by rfl) hk5
      · exact ⟨rfl, HB.out.trans (ht5.below HB.out.size (fun i hi => by subst hi; exact Hg.out.2.1))⟩
end Go.Proofs.YtdgladhfibfdlaaGreatDoor
