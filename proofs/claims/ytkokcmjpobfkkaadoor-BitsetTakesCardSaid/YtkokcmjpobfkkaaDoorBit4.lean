/-
  bitset's Count and Below.
-/
import Derived.Test.YtkokcmjpobfkkaaDoorBit1
import Derived.Test.YtkokcmjpobfkkaaDoorOnes
namespace Go.Proofs.YtkokcmjpobfkkaaDoor
open Go Go.RowKit

theorem run_index_sc (f : Nat → Bool) (k : Nat) (hk : k < 16) (w : World) : (Instr.index TS (.agg (sc f)) (.int .i64 k)).run Tryd.prog w = .ok (.int .u64 (wd f k : Nat)) w := by
  have hu := Tryd.underlying31
  have he := Tryd.underlying22
  have hsz : ∀ w, (sizeOf 22).run Tryd.prog w = .ok 1 w := fun w => by kernel_rfl
  have h2 : ¬ 16 ≤ k := by omega
  have hg : (sc f)[k]? = some (.int .u64 (wd f k : Nat)) := sc_get f k hk
  simp [Instr.index, run_underlying hu, asIntOf, part, isAgg, run_underlying he, hsz, h2, hg, Result.andThen]
section
variable {ops : Array Oper} {rest : List Oper} {o : Oper} {a : Act} {w : World} {Q : Exit → Act → World → Prop}
theorem wpList_index_sc (hgd : o.guard = none) (x y : Operand) (ho : o.op = .index TS x y) (f : Nat → Bool) (k : Nat) (hx : a.eval x = .agg (sc f)) (hy : a.eval y = .int .i64 k) (hk : k < 16)
    (h : wpList Tryd.prog ops Q rest (a.put o.dst (.int .u64 (wd f k : Nat))) w) : wpList Tryd.prog ops Q (o :: rest) a w := by
  refine wpList_plain hgd fun K hK => ?_
  have hk2 := hK _ _ h
  unfold Oper.wp execOp
  simp only [ho, hx, hy, Sem.run_bind, Sem.run_pure, Result.andThen_ok, run_index_sc f k hk]
  exact hk2
end
set_option maxRecDepth 100000 in
theorem count_any (f : Nat → Bool) (w : World) : Calls Tryd.prog 9 #[.agg (sc f)] w fun e w' => e = .returned (.int .i64 (cnt f 1024 : Nat)) ∧ Below w.heap.size w w' := by
  have Hp := Lib.hid (pop_wd f)
  go_enter Tryd.func9, Tryd.ntmps9
  go_wp2_with (first
    | (refine wpList_box_arr rfl TS (.tmp 0) rfl (sc f) (by rfl) ?_; intro g1 w1 hg1 hk1 hb1)
    | (refine wpList_load_sc rfl TS (.tmp 1) rfl g1 f TS (by rfl) arr_TS hk1 ?_))
  have Hb := Lib.hid hb1
  clear hg1 hb1 hk1
  go_loopw [3, 5, 7] (fun s _ i wr => ∃ k c : Nat, s = .int .i64 c ∧ i = .int .i64 k ∧ k ≤ 16 ∧ c ≤ 64 * k ∧ Hid (c = cnt f (64 * k)) ∧ Hid (Below w.heap.size w wr)) (fun _ _ i _ => 16 - (intOf i).toNat)
  case atStart => exact ⟨0, 0, rfl, rfl, by omega, by omega, rfl, Hb⟩
  case round =>
    obtain ⟨k, c, rfl, rfl, hk, hc, he, HB⟩ := hrel
    by_cases hlt : k < 16
    · have hlt2 : (k : Int) < 16 := by omega
      have h1 := ones_any (wd f k) wr (wd_lt f k)
      have h2 := Hp.out k
      rw [← he.out] at h2
      have h3 := pop_le64 (wd f k)
      generalize pop (wd f k) = p at *
      have H1 := Lib.hid h1
      have H2 := Lib.hid h2
      clear h1 h2 he
      go_wp2_with (first | (refine wpList_index_sc rfl (.tmp 6) (.tmp 7) rfl f k (by rfl) (by rfl) hlt ?_))
      refine H1.out.mono ?_
      rintro e w' ⟨rfl, rfl⟩
      go_wp2
      go_roundw
      case rel => exact ⟨k + 1, c + p, by go_num, by go_num, by omega, by omega, H2, HB⟩
      case measure => simp [intOf]; omega
    · obtain rfl : k = 16 := by omega
      go_wp2
      go_ret
      exact ⟨by rw [show 1024 = 64 * 16 from rfl, ← he.out]; rfl, HB.out⟩
/-- All below a number. -/
def belowR (x : Int) (m : Nat) : Bool := decide ((m : Int) < x)
def partR (M k m : Nat) : Bool := decide (m < 64 * k) && decide (m < M)
theorem part_zero (M : Nat) : partR M 0 = fun _ => false := by
  funext m; unfold partR; rw [decide_eq_false (by omega)]; rfl
theorem part_all (x : Int) (M : Nat) (h : max x 0 = (M : Int)) : sc (partR M 16) = sc (belowR x) := sc_ext (fun m hm => by
  unfold partR belowR
  rw [decide_eq_true (show m < 64 * 16 by omega), Bool.true_and, Bool.eq_iff_iff, decide_eq_true_iff, decide_eq_true_iff]
  omega)
theorem part_step (M k : Nat) (hk : k < 16) : (sc (partR M k)).setIfInBounds k (.int .u64 (2 ^ (min (M - 64 * k) 64) - 1 : Nat)) = sc (partR M (k + 1)) := by
  refine sc_put _ _ k _ hk ((wd_low M k).trans (wd_ext (fun i hi => ?_))) (fun m hm hne => ?_)
  · unfold partR; rw [decide_eq_true (show 64 * k + i < 64 * (k + 1) by omega)]; rfl
  · unfold partR
    rw [show decide (m < 64 * k) = decide (m < 64 * (k + 1)) by rw [Bool.eq_iff_iff, decide_eq_true_iff, decide_eq_true_iff]; omega]
set_option maxRecDepth 100000 in
theorem below_any (x : Int) (w : World) (hx : x ≤ 9223372036854775807) : Calls Tryd.prog 17 #[.int .i64 x] w fun e w' => e = .returned (.agg (sc (belowR x))) ∧ Below w.heap.size w w' := by
  obtain ⟨M, hM⟩ : ∃ M : Nat, max x 0 = (M : Int) := ⟨x.toNat, by omega⟩
  have hM2 : M ≤ 9223372036854775807 := by omega
  have H := Lib.hid (part_all x M hM)
  clear hx
  go_enter Tryd.func17, Tryd.ntmps17
  go_wp2_with (first
    | (show wpList _ _ _ (⟨some 2, _, _, _, _, _⟩ :: _) _ _; refine wpList_alloc_arr rfl TS rfl arrz_TS ?_; intro g2 w2 hg2 hk2 hb2)
    | (show wpList _ _ _ (⟨some 3, _, _, _, _, _⟩ :: _) _ _; refine wpList_alloc_arr rfl TS rfl arrz_TS ?_; intro g3 w3 hg3 hk3 hb3))
  have Hg : Hid (w.heap.size ≤ g2 ∧ w.heap.size ≤ g3 ∧ g2 ≠ g3) := ⟨hg2, by have := hb2.size; omega, by have := hk2.lt; omega⟩
  have Hb : Hid (Below w.heap.size w w3) := hb2.trans (hb3.mono hb2.size)
  have Hk : Hid (Blk w3 g3 TS (sc (fun _ => false)) ∧ Blk w3 g2 TS (sc (fun _ => false))) := ⟨hk3, hk2.ext hb3⟩
  clear hg2 hg3 hk2 hk3 hb2 hb3
  go_loopw [4, 7] (fun _ i wr => ∃ k : Nat, i = .int .i64 k ∧ k ≤ 16 ∧ Hid (Blk wr g3 TS (sc (partR M k)) ∧ Blk wr g2 TS (sc (fun _ => false))) ∧ Hid (Below w.heap.size w wr)) (fun _ i _ => 16 - (intOf i).toNat)
  case atStart => exact ⟨0, rfl, by omega, by rw [part_zero]; exact Hk, Hb⟩
  case round =>
    obtain ⟨k, rfl, hk, HK, HB⟩ := hrel
    by_cases hlt : k < 16
    · have hlt2 : (k : Int) < 16 := by omega
      have k0 : (0 : Int) ≤ (k : Int) := by omega
      have qw : IntKind.i64.wrap (k : Int) = (k : Int) := by rw [IntKind.wrap_i64]; omega
      have q1 : IntKind.i64.wrap ((k : Int) * 64) = (k : Int) * 64 := by rw [IntKind.wrap_i64]; omega
      have hl := lowest_any ((M : Int) - (k : Int) * 64) wr (by omega) (by omega)
      have hs := part_step M k hlt
      rw [show ((M : Int) - (k : Int) * 64).toNat = M - 64 * k by omega] at hl
      obtain ⟨D, hD⟩ : ∃ D, (M : Int) - (k : Int) * 64 = D := ⟨_, rfl⟩
      have q2 : IntKind.i64.wrap ((M : Int) - (k : Int) * 64) = D := by rw [← hD, IntKind.wrap_i64]; omega
      rw [hD] at hl
      generalize 2 ^ (min (M - 64 * k) 64) - 1 = R at *
      have c0 := HK.out.1.cell k
      rw [sc_get _ k hlt] at c0
      have f0 := HK.out.1.fz k
      obtain ⟨F2, hF2⟩ : ∃ F2, partR M (k + 1) = F2 := ⟨_, rfl⟩
      rw [hF2] at hs
      generalize partR M k = F1 at *
      generalize wd F1 k = v1 at *
      have HT : Hid (Turn (fun i => i = g3) wr (wr.setCell ⟨g3, k, none⟩ (.int .u64 R))) := (Turn.refl _ _).setCell _ (fun _ => rfl)
      have HK3 : Hid (Blk (wr.setCell ⟨g3, k, none⟩ (.int .u64 R)) g3 TS (sc F2) ∧ Blk (wr.setCell ⟨g3, k, none⟩ (.int .u64 R)) g2 TS (sc (fun _ => false))) := ⟨by rw [← hs]; exact HK.out.1.set k _, HK.out.2.turn HT.out Hg.out.2.2⟩
      have HB3 : Hid (Below w.heap.size w (wr.setCell ⟨g3, k, none⟩ (.int .u64 R))) := HB.out.setCell Hg.out.2.1 _
      have HF2 := Lib.hid hF2
      have HL := Lib.hid hl
      clear HK HB hs hD hl H HT hF2
      go_wp2_with fail
      refine HL.out.mono ?_
      rintro e w' ⟨rfl, rfl⟩
      go_wp2
      go_roundw
      case rel => exact ⟨k + 1, by go_num, by omega, by rw [HF2.out]; exact HK3, HB3⟩
      case measure => simp [intOf]; omega
    · obtain rfl : k = 16 := by omega
      have HK2 := Lib.hid HK.out
      rw [H.out] at HK2
      clear HK
      go_wp2_with (first | (refine wpList_load_sc rfl TS (.tmp 3) rfl g3 _ TS (by rfl) arr_TS HK2.out.1 ?_) | (refine wpList_store_sc rfl TS (.tmp 2) (.tmp 18) rfl g2 _ _ TS (by rfl) (by rfl) arr_TS HK2.out.2 ?_; intro w5 hk5 ht5 _))
      refine bodyPost_ret (v := .agg (sc (belowR x))) ?_ rfl ?_
      · exact results_sc arr_TS rfl _ _ g2 _ (by rfl) hk5
      · exact ⟨rfl, HB.out.trans (ht5.below HB.out.size (fun i hi => by subst hi; exact Hg.out.1))⟩
end Go.Proofs.YtkokcmjpobfkkaaDoor
