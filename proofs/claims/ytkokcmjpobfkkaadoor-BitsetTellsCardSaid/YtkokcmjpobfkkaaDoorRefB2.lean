/-
  The document's sets: Set, All.
-/
import Derived.Test.YtkokcmjpobfkkaaDoorRefB
namespace Go.Proofs.YtkokcmjpobfkkaaDoor
open Go Go.RowKit

/-- What Set holds where c numbers are still to come. -/
def stR (f : Nat → Bool) (c m : Nat) : Bool := if c ≤ 64 * (m / 64) then f m else decide (c + m % 64 < 64 * (m / 64 + 1)) && f (c + m % 64)
theorem st_start (f : Nat → Bool) : sc (stR f 1024) = sc (fun _ => false) := sc_ext (fun m hm => by
  unfold stR; rw [if_neg (by omega), decide_eq_false (by omega)]; rfl)
theorem st_end (f : Nat → Bool) : sc (stR f 0) = sc f := sc_ext (fun m hm => by
  unfold stR; rw [if_pos (by omega)])
/-- One number more: its word twice what it was, and one more where the number is in. -/
theorem st_step (f : Nat → Bool) (i : Nat) (hi : i < 1024) : ∃ v V : Nat, wd (stR f (i + 1)) (i / 64) = v ∧ 2 * v + (f i).toNat = V ∧ V < 18446744073709551616 ∧ (sc (stR f (i + 1))).setIfInBounds (i / 64) (.int .u64 (V : Nat)) = sc (stR f i) := by
  have hV : 2 * wd (stR f (i + 1)) (i / 64) + (f i).toNat = wd (stR f i) (i / 64) := by
    have h1 : wd (stR f i) (i / 64) / 2 = wd (stR f (i + 1)) (i / 64) := by
      refine wd_of (by have := wd_lt (stR f i) (i / 64); omega) (fun t ht => ?_)
      rw [← Nat.testBit_succ]
      by_cases h : t = 63
      · subst h
        rw [bit_big (wd_lt _ _) (by omega)]
        unfold stR
        rw [if_neg (by omega), decide_eq_false (by omega)]; rfl
      · rw [wd_bit _ _ _ (by omega)]
        have ea : (64 * (i / 64) + (t + 1)) / 64 = i / 64 := by omega
        have eb : (64 * (i / 64) + (t + 1)) % 64 = t + 1 := by omega
        have ec : (64 * (i / 64) + t) / 64 = i / 64 := by omega
        have ed : (64 * (i / 64) + t) % 64 = t := by omega
        unfold stR
        rw [ea, eb, ec, ed, if_neg (show ¬ i + 1 ≤ 64 * (i / 64) by omega)]
        by_cases h2 : i ≤ 64 * (i / 64)
        · rw [if_pos h2, decide_eq_true (by omega), Bool.true_and]
          congr 1; omega
        · rw [if_neg h2, show i + (t + 1) = i + 1 + t by omega]
    have h2 : wd (stR f i) (i / 64) % 2 = (f i).toNat := by
      have hb := wd_bit (stR f i) (i / 64) 0 (by omega)
      have e : stR f i (64 * (i / 64) + 0) = f i := by
        unfold stR
        by_cases h2 : i ≤ 64 * (i / 64)
        · rw [if_pos (by omega)]; congr 1; omega
        · rw [if_neg (by omega), decide_eq_true (by omega), Bool.true_and]; congr 1; omega
      rw [e, Nat.testBit_zero] at hb
      rw [← hb]
      rcases Nat.mod_two_eq_zero_or_one (wd (stR f i) (i / 64)) with h | h <;> rw [h] <;> rfl
    omega
  refine ⟨_, _, rfl, hV, wd_lt _ _, sc_put _ _ _ _ (by omega) rfl (fun m hm hne => ?_)⟩
  unfold stR
  by_cases h : i + 1 ≤ 64 * (m / 64)
  · rw [if_pos h, if_pos (by omega)]
  · rw [if_neg h, if_neg (by omega), decide_eq_false (by omega), decide_eq_false (by omega)]; rfl
set_option maxRecDepth 100000 in
theorem set_any (f : Nat → Bool) (w : World) : Calls Tryd.prog 12 #[.agg (bc f)] w fun e w' => e = .returned (.agg (sc f)) ∧ Below w.heap.size w w' := by
  have H := Lib.hid (st_end f)
  go_enter Tryd.func12, Tryd.ntmps12
  go_wp2_with (first
    | (refine wpList_box_arr rfl TB (.tmp 0) rfl (bc f) (by rfl) ?_; intro g1 w1 hg1 hk1 hb1)
    | (show wpList _ _ _ (⟨some 2, _, _, _, _, _⟩ :: _) _ _; refine wpList_alloc_arr rfl TW rfl arrz_TW ?_; intro g2 w2 hg2 hk2 hb2)
    | (show wpList _ _ _ (⟨some 3, _, _, _, _, _⟩ :: _) _ _; refine wpList_alloc_arr rfl TW rfl arrz_TW ?_; intro g3 w3 hg3 hk3 hb3))
  have Hb : Hid (Below w.heap.size w w3) := (hb1.trans (hb2.mono hb1.size)).trans (hb3.mono (hb1.trans (hb2.mono hb1.size)).size)
  have Hg : Hid (w.heap.size ≤ g2 ∧ w.heap.size ≤ g3 ∧ g1 ≠ g3 ∧ g2 ≠ g3) := ⟨Nat.le_trans hb1.size hg2, by have := hb1.size; have := hb2.size; omega, by have := hk1.lt; have := hb2.size; omega, by have := hk2.lt; omega⟩
  have Hk : Hid (Blk w3 g1 TB (bc f) ∧ Blk w3 g2 TW (sc (fun _ => false)) ∧ Blk w3 g3 TW (sc (stR f 1024))) := ⟨(hk1.ext hb2).ext hb3, hk2.ext hb3, by rw [st_start]; exact hk3⟩
  clear hg1 hg2 hg3 hk1 hk2 hk3 hb1 hb2 hb3
  go_loopw [4] (fun i wr => ∃ c : Nat, i = .int .i64 ((c : Int) - 1) ∧ c ≤ 1024 ∧ Hid (Blk wr g1 TB (bc f) ∧ Blk wr g2 TW (sc (fun _ => false)) ∧ Blk wr g3 TW (sc (stR f c))) ∧ Hid (Below w.heap.size w wr)) (fun i _ => (intOf i + 1).toNat)
  case atStart => exact ⟨1024, rfl, by omega, Hk, Hb⟩
  case round =>
    obtain ⟨c, rfl, hc, HK, HB⟩ := hrel
    rcases c with _ | i
    · have HK2 := Lib.hid HK.out
      rw [H.out] at HK2
      clear HK
      have e0 : ((0 : Nat) : Int) - 1 = -1 := rfl
      rw [e0]
      go_wp2_with (first | (refine wpList_load_sc rfl TW (.tmp 3) rfl g3 _ TW (by rfl) arr_TW HK2.out.2.2 ?_) | (refine wpList_store_sc rfl TW (.tmp 2) (.tmp 26) rfl g2 _ _ TW (by rfl) (by rfl) arr_TW HK2.out.2.1 ?_; intro w5 hk5 ht5 _))
      refine bodyPost_ret (v := .agg (sc f)) ?_ rfl ?_
      · exact results_sc arr_TW rfl _ _ g2 _ (by rfl) hk5
      · exact ⟨rfl, HB.out.trans (ht5.below HB.out.size (fun i hi => by subst hi; exact Hg.out.1))⟩
    · have ei : ((i + 1 : Nat) : Int) - 1 = (i : Int) := by omega
      rw [ei]
      have hlt : i < 1024 := by omega
      have hlt2 : (i : Int) < 1024 := by omega
      have i0 : (0 : Int) ≤ (i : Int) := by omega
      have e1 : (i : Int).tdiv 64 = ((i / 64 : Nat) : Int) := rfl
      have q0 : (0 : Int) ≤ ((i / 64 : Nat) : Int) := by omega
      have q1 : ((i / 64 : Nat) : Int) < 16 := by omega
      have qw : IntKind.i64.wrap ((i / 64 : Nat) : Int) = ((i / 64 : Nat) : Int) := by rw [IntKind.wrap_i64]; omega
      have iw : IntKind.i64.wrap (i : Int) = (i : Int) := by rw [IntKind.wrap_i64]; omega
      obtain ⟨v, V, hv, hV, hV9, hst⟩ := st_step f i hlt
      have c0 := HK.out.2.2.word (i / 64) (by omega)
      rw [hv] at c0
      have f0 := HK.out.2.2.fz (i / 64)
      have cy := HK.out.1.yes i hlt
      obtain ⟨D, hD⟩ : ∃ D, f i = D := ⟨_, rfl⟩
      rw [hD] at cy hV
      have hne1 := Hg.out.2.2.1
      have hb3 := HK.out.2.2
      have hm3 := HK.out
      generalize i / 64 = q at *
      obtain ⟨v2, hv2⟩ : ∃ v2 : Nat, 2 * v = v2 := ⟨_, rfl⟩
      rw [hv2] at hV
      have m1 : IntKind.u64.wrap (2 * (v : Int)) = (v2 : Int) := by rw [IntKind.wrap_u64]; omega
      have HT : Hid (∀ u, Turn (fun j => j = g3) wr (wr.setCell ⟨g3, q, none⟩ u)) := fun u => (Turn.refl _ _).setCell _ (fun _ => rfl)
      have c1 : (wr.setCell ⟨g3, q, none⟩ (.int .u64 v2)).cell? ⟨g1, i, none⟩ = some (.bool D) := (World.cell?_setCell_far wr ⟨g3, q, none⟩ _ _ (by exact hne1.symm)).trans cy
      have hbk := hb3.set q (.int .u64 v2)
      cases D with
      | false =>
        have eV : v2 = V := by rw [← hV]; rfl
        subst eV
        have HK3 : Hid (Blk (wr.setCell ⟨g3, q, none⟩ (.int .u64 v2)) g1 TB (bc f) ∧ Blk (wr.setCell ⟨g3, q, none⟩ (.int .u64 v2)) g2 TW (sc (fun _ => false)) ∧ Blk (wr.setCell ⟨g3, q, none⟩ (.int .u64 v2)) g3 TW (sc (stR f i))) := ⟨hm3.1.turn (HT.out _) Hg.out.2.2.1, hm3.2.1.turn (HT.out _) Hg.out.2.2.2, by rw [← hst]; exact hbk⟩
        have HB3 : Hid (Below w.heap.size w (wr.setCell ⟨g3, q, none⟩ (.int .u64 v2))) := HB.out.setCell Hg.out.2.1 _
        clear HK HB hst HT hD hv hV hb3 hm3 hbk hv2 hV9 ei
        go_wp2
        go_roundw
        case rel => exact ⟨i, by go_num, by omega, HK3, HB3⟩
        case measure => simp [intOf]; try omega
      | true =>
        have eV : v2 + 1 = V := by rw [← hV]; rfl
        have m2 : IntKind.u64.wrap ((v2 : Int) + 1) = (V : Int) := by rw [IntKind.wrap_u64]; omega
        obtain ⟨W1, hW1⟩ : ∃ W1, wr.setCell ⟨g3, q, none⟩ (.int .u64 v2) = W1 := ⟨_, rfl⟩
        have ht1 := HT.out (.int .u64 v2)
        have hB1 := HB.out.setCell (p := ⟨g3, q, none⟩) Hg.out.2.1 (.int .u64 v2)
        rw [hW1] at c1 hbk ht1 hB1
        have HW1 := Lib.hid hW1
        have c2 := hbk.cell q
        have f2 := hbk.fz q
        have hbk2 := hbk.set q (.int .u64 V)
        rw [Array.setIfInBounds_setIfInBounds, hst] at hbk2
        rw [Array.getElem?_setIfInBounds, if_pos rfl, if_pos (by rw [sc_size]; omega)] at c2
        have ht2 : Turn (fun j => j = g3) W1 (W1.setCell ⟨g3, q, none⟩ (.int .u64 V)) := (Turn.refl _ _).setCell _ (fun _ => rfl)
        have HK3 : Hid (Blk (W1.setCell ⟨g3, q, none⟩ (.int .u64 V)) g1 TB (bc f) ∧ Blk (W1.setCell ⟨g3, q, none⟩ (.int .u64 V)) g2 TW (sc (fun _ => false)) ∧ Blk (W1.setCell ⟨g3, q, none⟩ (.int .u64 V)) g3 TW (sc (stR f i))) := ⟨(hm3.1.turn ht1 Hg.out.2.2.1).turn ht2 Hg.out.2.2.1, (hm3.2.1.turn ht1 Hg.out.2.2.2).turn ht2 Hg.out.2.2.2, hbk2⟩
        have HB3 : Hid (Below w.heap.size w (W1.setCell ⟨g3, q, none⟩ (.int .u64 V))) := hB1.setCell Hg.out.2.1 _
        clear HK HB hst HT hD hv hV hb3 hm3 hbk hv2 hV9 ei ht1 ht2 hB1 hbk2 hW1 eV
        go_wp2
        rw [HW1.out]
        go_wp2
        go_roundw
        case rel => exact ⟨i, by go_num, by omega, HK3, HB3⟩
        case measure => simp [intOf]; try omega
theorem eI_no (f : Nat → Bool) (k : Nat) (h : f k = false) : eI f (k + 1) = eI f k := by
  rw [eI, eI, els, h]; simp
theorem eI_yes (f : Nat → Bool) (k : Nat) (h : f k = true) : eI f (k + 1) = eI f k ++ [(k : Int)] := by
  rw [eI, eI, els, h]; simp
set_option maxRecDepth 100000 in
theorem refAll_any (f : Nat → Bool) (w : World) : Calls Tryd.prog 8 #[.agg (bc f)] w fun e w' => ∃ v, e = .returned v ∧ PgV w' v (eI f 1024) ∧ Below w.heap.size w w' := by
  go_enter Tryd.func8, Tryd.ntmps8
  go_wp2_with (first
    | (refine wpList_box_arr rfl TB (.tmp 0) rfl (bc f) (by rfl) ?_; intro g1 w1 hg1 hk1 hb1))
  have Hk := Lib.hid (And.intro hk1 hg1)
  have Hb := Lib.hid hb1
  clear hk1 hb1 hg1
  go_loopw [3, 4] (fun lv i wr => ∃ (k : Nat) (v : Value), v = lv ∧ i = .int .i64 k ∧ k ≤ 1024 ∧ Hid (wr.ownsRow w1.heap.size ZT 1 v (eI f k).length (iv (eI f k))) ∧ Hid (Below w1.heap.size w1 wr)) (fun _ i _ => 1024 - (intOf i).toNat)
  case atStart => exact ⟨0, _, rfl, rfl, by omega, ⟨rfl, .inl ⟨rfl, rfl⟩⟩, Below.refl _ _⟩
  case round =>
    obtain ⟨k, v, rfl, rfl, hk, hown, hB⟩ := hrel
    by_cases hlt : k < 1024
    · have hlt2 : (k : Int) < 1024 := by omega
      have k0 : (0 : Int) ≤ (k : Int) := by omega
      have kw : IntKind.i64.wrap (k : Int) = (k : Int) := by rw [IntKind.wrap_i64]; omega
      have cy := (Hk.out.1.below hB.out Hk.out.1.lt).yes k hlt
      have hno := eI_no f k
      have hyes := eI_yes f k
      obtain ⟨D, hD⟩ : ∃ D, f k = D := ⟨_, rfl⟩
      rw [hD] at cy hno hyes
      clear hD
      cases D with
      | false =>
        have ho2 : Hid (wr.ownsRow w1.heap.size ZT 1 v (eI f (k + 1)).length (iv (eI f (k + 1)))) := by show World.ownsRow _ _ _ _ _ _ _; rw [hno rfl]; exact hown.out
        clear hno hyes hown
        go_wp2
        go_roundw
        case rel => exact ⟨k + 1, v, rfl, by go_num, by omega, ho2, hB⟩
        case measure => simp [intOf]; omega
      | true =>
        have hst := Lib.hid (hyes rfl)
        have hln : Hid ((eI f k).length ≤ 1024) := by
          show _ ≤ _
          rw [eI_len]; have := cnt_le f k; omega
        have hsz := hB.out.size
        have hnew := Lib.hid (zcell_new wr ZT (k : Int))
        clear hno hyes
        go_wp2_with (at_builtin; refine wpList_append_page rfl (.tmp 12) (.tmp 14) SZT rfl w1.heap.size ZT Tryd.underlying26 infoInt _ (eI f k) (by rfl) (hown.out.alloc _) wr.heap.size 1 (k : Int) (by rfl) hnew.out (by have := hln.out; omega) (by simp; omega) ?_; intro v' w2 hown2 hgrow2)
        have hb2 : Hid (Below w1.heap.size w1 w2) := (hB.out.alloc hsz _).grown hgrow2.out (by simp; omega) (fun j hj => (hown.out.lt j hj).1)
        have ho2 : Hid (w2.ownsRow w1.heap.size ZT 1 v' (eI f (k + 1)).length (iv (eI f (k + 1)))) := by rw [hst.out]; exact hown2
        clear hown2 hgrow2 hown hB hst
        go_wp2
        go_roundw
        case rel => exact ⟨k + 1, v', rfl, by go_num, by omega, ho2, hb2⟩
        case measure => simp [intOf]; omega
    · obtain rfl : k = 1024 := by omega
      have Hf : Hid (Below w.heap.size w wr) := Hb.out.trans (hB.out.mono Hb.out.size)
      have Ho := Lib.hid (own_pages hown.out)
      clear hown hB
      go_wp2
      go_ret
      exact ⟨_, rfl, Ho.out, Hf.out⟩
end Go.Proofs.YtkokcmjpobfkkaaDoor
