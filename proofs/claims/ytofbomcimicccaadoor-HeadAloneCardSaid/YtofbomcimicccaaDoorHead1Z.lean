/-
  head's numbersOf, headOf, rooted, Slot.
-/
import Derived.Test.YtofbomcimicccaaDoorHdArmZ
namespace Go.Proofs.YtofbomcimicccaaDoor
open Go Go.RowKit

theorem slot_any (s : Nat) (w : World) (hs : s < 18446744073709551616) : Calls Tryd.prog 16 #[.int .u64 s] w fun e w' => e = .returned (.int .i64 (s % 2 : Nat)) ∧ w = w' := by
  obtain ⟨q, hq⟩ : ∃ q, s % 2 = q := ⟨_, rfl⟩
  have h1 : (s : Int).tmod 2 = (q : Int) := by rw [Int.tmod_eq_emod_of_nonneg (by omega)]; omega
  have h2 : (s : Int) % 2 = (q : Int) := by omega
  have h3 : q < 2 := by omega
  rw [hq]
  clear hq
  have z1 : IntKind.i64.wrap (q : Int) = (q : Int) := by rw [IntKind.wrap_i64]; omega
  go_enter Tryd.func16, Tryd.ntmps16
  go_wp2
  go_ret
  exact ⟨rfl, rfl⟩
theorem rooted_any (h : Hd) (w : World) : Calls Tryd.prog 27 #[.agg (hv h)] w fun e w' => e = .returned (.bool (hrootB h)) ∧ Below w.heap.size w w' := by
  obtain ⟨R, hR⟩ : ∃ R, hrootB h = R := ⟨_, rfl⟩
  rw [hR]
  unfold hrootB at hR
  by_cases he : h.e = 0
  · rw [if_pos he] at hR
    have d1 : (h.e == 0) = true := by rw [beq_iff_eq]; exact he
    have d2 : (h.r == 0) = R := by rw [← hR, Bool.eq_iff_iff, beq_iff_eq, decide_eq_true_iff]
    clear hR he
    go_enter Tryd.func27, Tryd.ntmps27
    go_wp2_with (refine wpList_box_arr rfl HT (.tmp 0) rfl (hv h) (by rfl) ?_; intro g1 w1 hg1 hk1 hb1; have q3 := hk1.h3; have q4 := hk1.h4)
    go_ret
    exact ⟨rfl, hb1⟩
  · rw [if_neg he] at hR
    have d1 : (h.e == 0) = false := by rw [beq_eq_false_iff_ne]; exact he
    have d2 : decide (2 ≤ h.r) = R := hR
    clear hR he
    go_enter Tryd.func27, Tryd.ntmps27
    go_wp2_with (refine wpList_box_arr rfl HT (.tmp 0) rfl (hv h) (by rfl) ?_; intro g1 w1 hg1 hk1 hb1; have q3 := hk1.h3; have q4 := hk1.h4)
    go_ret
    exact ⟨rfl, hb1⟩
/-- A head's numbers, as they stand on its page. -/
def hnum (h : Hd) : Nat → Nat := fun i => if i = 0 then h.s else if i = 1 then h.t else if i = 2 then h.g else if i = 3 then (IntKind.u64.wrap h.r).toNat else (IntKind.u64.wrap h.e).toNat
theorem numbers_any (h : Hd) (w : World) : Calls Tryd.prog 17 #[.agg (hv h)] w fun e w' => e = .returned (.agg (nv (hnum h))) ∧ Below w.heap.size w w' := by
  obtain ⟨R, hR⟩ : ∃ R, (IntKind.u64.wrap h.r).toNat = R := ⟨_, rfl⟩
  obtain ⟨E, hE⟩ : ∃ E, (IntKind.u64.wrap h.e).toNat = E := ⟨_, rfl⟩
  have zr : IntKind.u64.wrap h.r = (R : Int) := by rw [← hR, IntKind.wrap_u64]; omega
  have ze : IntKind.u64.wrap h.e = (E : Int) := by rw [← hE, IntKind.wrap_u64]; omega
  have hn : nv (hnum h) = #[.int .u64 (h.s : Nat), .int .u64 (h.t : Nat), .int .u64 (h.g : Nat), .int .u64 (R : Nat), .int .u64 (E : Nat)] := by
    unfold nv hnum
    simp [hR, hE]
  obtain ⟨P, hP⟩ : ∃ P, nv (hnum h) = P := ⟨_, rfl⟩
  have sP : P.size = 5 := by rw [← hP]; rfl
  have oP : P.all (·.oneCell') = true := by rw [← hP]; exact nv_one _
  have hB : ∀ w : World, (Instr.build NT #[(0, .int .u64 (h.s : Nat)), (1, .int .u64 (h.t : Nat)), (2, .int .u64 (h.g : Nat)), (3, .int .u64 (R : Nat)), (4, .int .u64 (E : Nat))]).run Tryd.prog w = .ok (.agg P) w := fun w => by
    rw [← hP, hn]
    have := build_n (fun i => if i = 0 then h.s else if i = 1 then h.t else if i = 2 then h.g else if i = 3 then R else E) w
    simpa [nv] using this
  rw [hP]
  clear hR hE hn hP
  go_enter Tryd.func17, Tryd.ntmps17
  go_wp2_with (first
    | (refine wpList_box_arr rfl HT (.tmp 0) rfl (hv h) (by rfl) ?_; intro g1 w1 hg1 hk1 hb1)
    | (refine wpList_alloc_arr rfl NT rfl arrz_NT ?_; intro g2 w2 hg2 hk2 hb2; have hj1 := hk1.ext hb2; have q0 := hj1.h0; have q1 := hj1.h1; have q2 := hj1.h2; have q3 := hj1.h3; have q4 := hj1.h4; have HB := Lib.hid (hb1.trans (hb2.mono hb1.size)))
    | (refine wpList_build rfl NT _ rfl _ (by rfl) P (hB _) ?_)
    | (refine wpList_store_agg rfl NT (.tmp 2) (.tmp 15) rfl g2 P _ NT (by rfl) (by rfl) agg_NT hk2 sP rfl oP ?_; intro w8 hk8 ht8 hs8))
  refine bodyPost_ret (v := .agg P) ?_ rfl ?_
  · exact results_agg agg_NT rfl _ _ g2 _ (by rfl) hk8 sP
  · exact ⟨rfl, HB.out.trans (ht8.below HB.out.size (fun i hi => by subst hi; have := hb1.size; omega))⟩
theorem headOf_any (f : Nat → Nat) (h3 : f 3 ≤ 4096) (h4 : f 4 ≤ 4096) (w : World) : Calls Tryd.prog 25 #[.agg (nv f)] w fun e w' => e = .returned (.agg (hv (hof f))) ∧ Below w.heap.size w w' := by
  have zr : IntKind.i64.wrap (f 3 : Int) = (f 3 : Int) := by rw [IntKind.wrap_i64]; omega
  have ze : IntKind.i64.wrap (f 4 : Int) = (f 4 : Int) := by rw [IntKind.wrap_i64]; omega
  have hB := build_h (f 0) (f 1) (f 2) (f 3) (f 4)
  rw [show (⟨f 0, f 1, f 2, (f 3 : Nat), (f 4 : Nat)⟩ : Hd) = hof f from rfl] at hB
  generalize hof f = H at *
  clear h3 h4
  go_enter Tryd.func25, Tryd.ntmps25
  go_wp2_with (first
    | (refine wpList_box_arr rfl NT (.tmp 0) rfl (nv f) (by rfl) ?_; intro g1 w1 hg1 hk1 hb1)
    | (refine wpList_alloc_arr rfl HT rfl arrz_HT ?_; intro g2 w2 hg2 hk2 hb2; have hj1 := hk1.ext hb2; have q0 := hj1.num 0 (by decide); have q1 := hj1.num 1 (by decide); have q2 := hj1.num 2 (by decide); have q3 := hj1.num 3 (by decide); have q4 := hj1.num 4 (by decide); have HB := Lib.hid (hb1.trans (hb2.mono hb1.size)))
    | (refine wpList_build rfl HT _ rfl _ (by rfl) (hv H) (hB _) ?_)
    | (refine wpList_store_agg rfl HT (.tmp 2) (.tmp 15) rfl g2 (hv H) _ HT (by rfl) (by rfl) agg_HT hk2 (hv_size _) (hv_size _) (hv_one _) ?_; intro w8 hk8 ht8 hs8))
  refine bodyPost_ret (v := .agg (hv H)) ?_ rfl ?_
  · exact results_agg agg_HT rfl _ _ g2 _ (by rfl) hk8 (hv_size _)
  · exact ⟨rfl, HB.out.trans (ht8.below HB.out.size (fun i hi => by subst hi; have := hb1.size; omega))⟩
end Go.Proofs.YtofbomcimicccaaDoor
