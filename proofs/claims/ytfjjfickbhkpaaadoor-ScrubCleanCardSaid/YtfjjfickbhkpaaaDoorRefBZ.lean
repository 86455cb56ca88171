/-
  The document's sets: Of, Set, All.
  The document's sets: Set, All.
-/
import Derived.Test.YtfjjfickbhkpaaaDoorBit5Z
import Derived.Test.YtfjjfickbhkpaaaDoorTurnZ
import Derived.Test.YtfjjfickbhkpaaaDoorArrBZ
namespace Go.Proofs.YtfjjfickbhkpaaaDoor
open Go Go.RowKit

/-- The first c of a list. -/
def ofR (f : Nat → Bool) (c m : Nat) : Bool := decide (m < c) && f m
theorem of_zero (f : Nat → Bool) : ofR f 0 = fun _ => false := by
  funext m; unfold ofR; rw [decide_eq_false (by omega)]; rfl
theorem of_all (f : Nat → Bool) : bc (ofR f 1024) = bc f := bc_ext (fun m hm => by
  unfold ofR; rw [decide_eq_true hm]; rfl)
theorem of_step (f : Nat → Bool) (c : Nat) (hc : c < 1024) : (bc (ofR f c)).setIfInBounds c (.bool (f c)) = bc (ofR f (c + 1)) := by
  rw [bc_set _ c _ hc]
  refine bc_ext (fun m hm => ?_)
  unfold ofR
  by_cases e : m = c
  · subst e; rw [if_pos rfl, decide_eq_true (by omega)]; rfl
  · rw [if_neg e, show decide (m < c + 1) = decide (m < c) by rw [Bool.eq_iff_iff, decide_eq_true_iff, decide_eq_true_iff]; omega]
theorem div_pow_succ (v k : Nat) : v / 2 ^ k / 2 = v / 2 ^ (k + 1) := by rw [Nat.div_div_eq_div_mul, Nat.pow_succ]
theorem of_bit (f : Nat → Bool) (i : Nat) : ((((wd f (i / 64) / 2 ^ (i % 64) % 2 : Nat) : Int)) == 1) = f i := by
  have h := wd_bit f (i / 64) (i % 64) (by omega)
  rw [show 64 * (i / 64) + i % 64 = i by omega, Nat.testBit_eq_decide_div_mod_eq] at h
  rw [← h, Bool.eq_iff_iff, beq_iff_eq, decide_eq_true_iff]
  omega
set_option maxRecDepth 100000 in
theorem of_any (f : Nat → Bool) (w : World) : Calls Tryd.prog 16 #[.agg (sc f)] w fun e w' => e = .returned (.agg (bc f)) ∧ Below w.heap.size w w' := by
  have H := Lib.hid (of_all f)
  go_enter Tryd.func16, Tryd.ntmps16
  go_wp2_with (first
    | (refine wpList_box_arr rfl TW (.tmp 0) rfl (sc f) (by rfl) ?_; intro g1 w1 hg1 hk1 hb1)
    | (show wpList _ _ _ (⟨some 2, _, _, _, _, _⟩ :: _) _ _; refine wpList_alloc_arr rfl TB rfl arrz_TB ?_; intro g2 w2 hg2 hk2 hb2)
    | (show wpList _ _ _ (⟨some 3, _, _, _, _, _⟩ :: _) _ _; refine wpList_alloc_arr rfl TB rfl arrz_TB ?_; intro g3 w3 hg3 hk3 hb3))
  have Hb : Hid (Below w.heap.size w w3) := (hb1.trans (hb2.mono hb1.size)).trans (hb3.mono (hb1.trans (hb2.mono hb1.size)).size)
  have HgL : Hid (w.heap.size ≤ g2 ∧ w.heap.size ≤ g3 ∧ g1 ≠ g3 ∧ g2 ≠ g3) := ⟨Nat.le_trans hb1.size hg2, by have := hb1.size; have := hb2.size; omega, by have := hk1.lt; have := hb2.size; omega, by have := hk2.lt; omega⟩
  have Hk : Hid (Blk w3 g1 TW (sc f) ∧ Blk w3 g2 TB (bc (fun _ => false)) ∧ Blk w3 g3 TB (bc (fun _ => false))) := ⟨(hk1.ext hb2).ext hb3, hk2.ext hb3, hk3⟩
  clear hg1 hg2 hg3 hk1 hk2 hk3 hb1 hb2 hb3
  go_loopw [4, 5, 6] (fun i _ _ wr => ∃ k : Nat, i = .int .i64 k ∧ k ≤ 1024 ∧ Hid (Blk wr g1 TW (sc f) ∧ Blk wr g2 TB (bc (fun _ => false)) ∧ Blk wr g3 TB (bc (ofR f k))) ∧ Hid (Below w.heap.size w wr)) (fun i _ _ _ => 1024 - (intOf i).toNat)
  case atStart => exact ⟨0, rfl, by omega, by rw [of_zero]; exact Hk, Hb⟩
  case round =>
    obtain ⟨i, rfl, hi, HK, HB⟩ := hrel
    obtain ⟨W0, hW0⟩ : ∃ W0, W0 = wr := ⟨_, rfl⟩
    subst hW0
    by_cases hlt : i < 1024
    · have hlt2 : (i : Int) < 1024 := by omega
      have i0 : (0 : Int) ≤ (i : Int) := by omega
      have e1 : (i : Int).tdiv 64 = ((i / 64 : Nat) : Int) := rfl
      have e2 : (i : Int).tmod 64 = ((i % 64 : Nat) : Int) := rfl
      have q0 : (0 : Int) ≤ ((i / 64 : Nat) : Int) := by omega
      have q1 : ((i / 64 : Nat) : Int) < 16 := by omega
      have qw : IntKind.i64.wrap ((i / 64 : Nat) : Int) = ((i / 64 : Nat) : Int) := by rw [IntKind.wrap_i64]; omega
      have c0 := HK.out.1.word (i / 64) (by omega)
      have hbit := Lib.hid (of_bit f i)
      have hv := wd_lt f (i / 64)
      have hr : i % 64 < 64 := by omega
      have hq : i / 64 < 16 := by omega
      generalize wd f (i / 64) = V at *
      generalize i / 64 = q at *
      generalize i % 64 = r at *
      go_wp2_with fail
      go_loopw [5, 6] (fun v j wx => ∃ k : Nat, v = .int .u64 (V / 2 ^ k : Nat) ∧ j = .int .i64 k ∧ k ≤ r ∧ Hid (wx = W0)) (fun _ j _ => r - (intOf j).toNat)
      case atStart => exact ⟨0, by rw [Nat.pow_zero, Nat.div_one], rfl, by omega, rfl⟩
      case round =>
        obtain ⟨k, rfl, rfl, hk, hw⟩ := hrel
        obtain rfl := hw.out
        by_cases hkr : k < r
        · have hkr2 : (k : Int) < (r : Int) := by omega
          have hd := div_pow_succ V k
          have HD : Hid (V / 2 ^ (k + 1) = V / 2 ^ k / 2) := hd.symm
          have hvl : V / 2 ^ k < 18446744073709551616 := Nat.lt_of_le_of_lt (Nat.div_le_self _ _) hv
          generalize V / 2 ^ k = v at *
          clear hd
          go_wp2
          go_roundw
          case rel => exact ⟨k + 1, by rw [HD.out]; rfl, by go_num, by omega, Lib.hid trivial⟩
          case measure => simp [intOf]; omega
        · obtain rfl : k = r := by omega
          have hkr2 : ¬ (k : Int) < (k : Int) := by omega
          have iw : IntKind.i64.wrap (i : Int) = (i : Int) := by rw [IntKind.wrap_i64]; omega
          obtain ⟨v, hvv⟩ : ∃ v, V / 2 ^ k = v := ⟨_, rfl⟩
          have hb := hbit.out
          rw [hvv] at hb ⊢
          have hmd : (v : Int).tmod 2 = ((v % 2 : Nat) : Int) := rfl
          have hst := of_step f i hlt
          obtain ⟨D, hD⟩ : ∃ D, f i = D := ⟨_, rfl⟩
          rw [hD] at hb hst
          have cc := HK.out.2.2.yes i hlt
          have ff := HK.out.2.2.fz i
          generalize v % 2 = v2 at *
          have HT : Hid (Turn (fun j => j = g3) wr (wr.setCell ⟨g3, i, none⟩ (.bool D))) := (Turn.refl _ _).setCell _ (fun _ => rfl)
          have HK3 : Hid (Blk (wr.setCell ⟨g3, i, none⟩ (.bool D)) g1 TW (sc f) ∧ Blk (wr.setCell ⟨g3, i, none⟩ (.bool D)) g2 TB (bc (fun _ => false)) ∧ Blk (wr.setCell ⟨g3, i, none⟩ (.bool D)) g3 TB (bc (ofR f (i + 1)))) := ⟨HK.out.1.turn HT.out HgL.out.2.2.1, HK.out.2.1.turn HT.out HgL.out.2.2.2, by rw [← hst]; exact HK.out.2.2.set i _⟩
          have HB3 : Hid (Below w.heap.size w (wr.setCell ⟨g3, i, none⟩ (.bool D))) := HB.out.setCell HgL.out.2.1 _
          generalize ofR f i i = u0 at *
          clear HK HB hst HT hD hvv hbit c0 hw
          go_wp2
          go_roundw
          case rel => exact ⟨i + 1, by go_num, by omega, HK3, HB3⟩
          case measure => simp [intOf]; omega
    · obtain rfl : i = 1024 := by omega
      have HK2 := Lib.hid HK.out
      rw [H.out] at HK2
      clear HK
      go_wp2_with (first | (refine wpList_load_bc rfl (.tmp 3) rfl g3 _ (by rfl) HK2.out.2.2 ?_) | (refine wpList_store_bc rfl (.tmp 2) (.tmp 28) rfl g2 _ _ (by rfl) (by rfl) HK2.out.2.1 ?_; intro w5 hk5 ht5 _))
      refine bodyPost_ret (v := .agg (bc f)) ?_ rfl ?_
      · exact results_bc rfl _ _ g2 _ (by rfl) hk5
      · exact ⟨rfl, HB.out.trans (ht5.below HB.out.size (fun i hi => by subst hi; exact HgL.out.1))⟩
end Go.Proofs.YtfjjfickbhkpaaaDoor
namespace Go.Proofs.YtfjjfickbhkpaaaDoor
open Go Go.RowKit

/-- What Set holds where c numbers are still to come. -/
def stR (f : Nat → Bool) (c m : Nat) : Bool := if c ≤ 64 * (m / 64) then f m else decide (c + m % 64 < 64 * (m / 64 + 1)) && f (c + m % 64)
theorem st_start (f : Nat → Bool) : sc (stR f 1024) = sc (fun _ => false) := sc_ext (fun m hm => by
  unfold stR; rw [if_neg (by omega), decide_eq_false (by omega)]; rfl)
theorem st_end (f : Nat → Bool) : sc (stR f 0) = sc f := sc_ext (fun m hm => by
  unfold stR; rw [if_pos (by omega)])
/-- One number more: its word twice what it was, and one more where the number is in. -/
theorem st_step (f : Nat → Bool) (i : Nat) (hi : i < 1024) : ∃ v V : Nat, wd (stR f (i + 1)) (i / 64) = v ∧ 2 * v + (f i).toNat = V ∧ V < 18446744073709551616 ∧ (sc (stR f (i + 1))).setIfInBounds (i / 64) (.int .u64 (V : Nat)) = sc (stR f i) := by
  have hV : 2 * wd (stR f (i + 1)) (i / 64) + (f i).toNat = wd (stR f i) (i / 64) := by
    have h1 : wd (stR f i) (i / 64) / 2 = wd (stR f (i + 1)) (i / 64) := by
      refine wd_of (by have := wd_lt (stR f i) (i / 64); omega) (fun t ht => ?_)
      rw [← Nat.testBit_succ]
      by_cases h : t = 63
      · subst h
        rw [bit_big (wd_lt _ _) (by omega)]
        unfold stR
        rw [if_neg (by omega), decide_eq_false (by omega)]; rfl
      · rw [wd_bit _ _ _ (by omega)]
        have ea : (64 * (i / 64) + (t + 1)) / 64 = i / 64 := by omega
        have eb : (64 * (i / 64) + (t + 1)) % 64 = t + 1 := by omega
        have ec : (64 * (i / 64) + t) / 64 = i / 64 := by omega
        have ed : (64 * (i / 64) + t) % 64 = t := by omega
        unfold stR
        rw [ea, eb, ec, ed, if_neg (show ¬ i + 1 ≤ 64 * (i / 64) by omega)]
        by_cases h2 : i ≤ 64 * (i / 64)
        · rw [if_pos h2, decide_eq_true (by omega), Bool.true_and]
          congr 1; omega
        · rw [if_neg h2, show i + (t + 1) = i + 1 + t by omega]
    have h2 : wd (stR f i) (i / 64) % 2 = (f i).toNat := by
      have hb := wd_bit (stR f i) (i / 64) 0 (by omega)
      have e : stR f i (64 * (i / 64) + 0) = f i := by
        unfold stR
        by_cases h2 : i ≤ 64 * (i / 64)
        · rw [if_pos (by omega)]; congr 1; omega
        · rw [if_neg (by omega), decide_eq_true (by omega), Bool.true_and]; congr 1; omega
      rw [e, Nat.testBit_zero] at hb
      rw [← hb]
      rcases Nat.mod_two_eq_zero_or_one (wd (stR f i) (i / 64)) with h | h <;> rw [h] <;> rfl
    omega
  refine ⟨_, _, rfl, hV, wd_lt _ _, sc_put _ _ _ _ (by omega) rfl (fun m hm hne => ?_)⟩
  unfold stR
  by_cases h : i + 1 ≤ 64 * (m / 64)
  · rw [if_pos h, if_pos (by omega)]
  · rw [if_neg h, if_neg (by omega), decide_eq_false (by omega), decide_eq_false (by omega)]; rfl
theorem eI_no (f : Nat → Bool) (k : Nat) (h : f k = false) : eI f (k + 1) = eI f k := by
  rw [eI, eI, els, h]; simp
theorem eI_yes (f : Nat → Bool) (k : Nat) (h : f k = true) : eI f (k + 1) = eI f k ++ [(k : Int)] := by
  rw [eI, eI, els, h]; simp
end Go.Proofs.YtfjjfickbhkpaaaDoor
