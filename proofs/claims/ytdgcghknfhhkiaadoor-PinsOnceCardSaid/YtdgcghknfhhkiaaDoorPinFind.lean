/-
  pins' find (a closure, IndexFunc).
-/
import Derived.Test.YtdgcghknfhhkiaaDoorPinArm
import Derived.Shelf.GgClosure.Gives
namespace Go.Proofs.YtdgcghknfhhkiaaDoor
open Go Go.RowKit Go.Shelf

set_option maxRecDepth 100000 in
theorem is_id (p : Pn) (d b : Nat) (w : World) (hx : w.cell? ⟨b, 0, none⟩ = some (.int .u64 (d : Nat))) :
    Calls Tryd.prog 33 (#[.agg (pv p)] ++ #[.pointer (some ⟨b, 0, none⟩)]) w fun e w' => e = .returned (.bool (decide (p.id = d))) ∧ Below w.heap.size w w' := by
  obtain ⟨I, S, F⟩ := p
  have e1 : ((I : Int) == (d : Int)) = decide (I = d) := by rw [Bool.eq_iff_iff, beq_iff_eq, decide_eq_true_iff]; omega
  have HX := Lib.hid hx
  obtain ⟨D, hD⟩ : ∃ D, decide (I = d) = D := ⟨_, rfl⟩
  show Calls _ _ _ _ fun e w' => e = .returned (.bool (decide (I = d))) ∧ _
  rw [hD] at e1 ⊢
  clear hx hD
  go_enter Tryd.func33, Tryd.ntmps33
  go_wp2_with (refine wpList_box_arr rfl PT (.tmp 0) rfl (pv ⟨I, S, F⟩) (by rfl) ?_; intro g1 w1 hg1 hk1 hb1; have q0 := hk1.at.id; have q1 := (hb1.cell (p := ⟨b, 0, none⟩) (block_lt_of_cell HX.out)).trans HX.out)
  go_ret
  exact ⟨rfl, hb1⟩
set_option maxRecDepth 100000 in
theorem index_any (a : Option Addr) (n c : Nat) (l : List Pn) (d b : Nat) (w : World) (hn : l.length = n) (hl : n ≤ 9223372036854775807) (hs : ES pinE w a l) (hx : w.cell? ⟨b, 0, none⟩ = some (.int .u64 (d : Nat))) :
    Calls Tryd.prog 32 #[.slice a n c, .func (.func 33) #[] #[.pointer (some ⟨b, 0, none⟩)]] w fun e w' => e = .returned (.int .i64 (pfi d l 0)) ∧ Below w.heap.size w w' := by
  have Hs := Lib.hid hs
  have Hn := Lib.hid hn
  have HX := Lib.hid hx
  have eg : ∀ args w, (callFunc 33 args).run Tryd.prog w = .ok (.enter 33 args) w := enters_of Tryd.func33 (by kernel_rfl) rfl
  obtain ⟨R, hR⟩ : ∃ R, pfi d l 0 = R := ⟨_, rfl⟩
  rw [hR]
  have HR := Lib.hid hR
  clear hs hn hx hR
  go_enter Tryd.func32, Tryd.ntmps32
  go_wp2_with fail
  go_loopw [5, 8] (fun _ i wr => ∃ k : Nat, k ≤ n ∧ i = .int .i64 k ∧ Hid (pfi d (l.drop k) k = R) ∧ Hid (Below w.heap.size w wr)) (fun _ i _ => n - (intOf i).toNat)
  case atStart => exact ⟨0, Nat.zero_le _, rfl, HR.out, Below.refl _ _⟩
  case round =>
    obtain ⟨k, hk, rfl, hrest, HB⟩ := hrel
    by_cases hlt : k < n
    · obtain ⟨g, o, rfl, hcell⟩ := (Hs.out.below HB.out (Nat.le_refl _)).pin (by rw [Hn.out]; omega)
      have Hc := Lib.hid (hcell k (by rw [Hn.out]; exact hlt))
      have hdk := pfi_drop d l k (by rw [Hn.out]; exact hlt) k
      have hcall := Lib.hid (fun (w1 : World) (h : w1.cell? ⟨b, 0, none⟩ = some (.int .u64 (d : Nat))) => is_id (pn l k) d b w1 h)
      rw [hdk] at hrest
      generalize pn l k = X at *
      have Hx2 : Hid (wr.cell? ⟨b, 0, none⟩ = some (.int .u64 (d : Nat))) := by show _ = _; rw [HB.out.cell (p := ⟨b, 0, none⟩) (block_lt_of_cell HX.out)]; exact HX.out
      have i1 : (k : Int) < (n : Int) := by omega
      clear hdk hcell
      by_cases hX : X.id = d
      · rw [decide_eq_true hX] at hcall
        have Hr : Hid ((k : Int) = R) := by have := hrest.out; rwa [if_pos hX] at this
        clear hrest hX
        go_wp2_with (first
          | (refine wpList_load_agg rfl PT (.tmp 14) rfl g (o + k * 18) (pv X) (by rfl) agg_PT Hc.out (pv_size _) ?_)
          | (go_at_fn 33; refine (hcall.out _ Hx2.out).mono ?_; rintro e w' ⟨rfl, hb⟩))
        go_ret
        exact ⟨by rw [← Hr.out]; rfl, HB.out.trans (hb.mono HB.out.size)⟩
      · rw [decide_eq_false hX] at hcall
        have Hr : Hid (pfi d (l.drop (k + 1)) (k + 1) = R) := by have := hrest.out; rwa [if_neg hX] at this
        clear hrest hX
        go_wp2_with (first
          | (refine wpList_load_agg rfl PT (.tmp 14) rfl g (o + k * 18) (pv X) (by rfl) agg_PT Hc.out (pv_size _) ?_)
          | (go_at_fn 33; refine (hcall.out _ Hx2.out).mono ?_; rintro e w' ⟨rfl, hb⟩))
        go_roundw
        case rel => exact ⟨k + 1, by omega, by go_num, Hr, HB.out.trans (hb.mono HB.out.size)⟩
        case measure => simp [intOf]; omega
    · obtain rfl : k = n := by omega
      have Hr : Hid (-1 = R) := by
        have := hrest.out; rwa [List.drop_of_length_le (by rw [Hn.out]; exact Nat.le_refl _)] at this
      clear hrest
      go_wp2
      go_ret
      exact ⟨by rw [← Hr.out]; rfl, HB.out⟩
/-- Where it stands; nought beside an error. -/
def fiA (l : List Pn) (N d : Nat) : Int := if fiE l N d = 0 then pfi d l 0 else 0
theorem fiA_at {l : List Pn} {N d k : Nat} (h : pmayB l N = true) (hf : pfi d l 0 = (k : Int)) : fiA l N d = (k : Int) := by unfold fiA; rw [fiE_at h hf, if_pos rfl, hf]
set_option maxRecDepth 100000 in
theorem find_any (v : Value) (l : List Pn) (N d : Nat) (w : World) (hv : EV pinE w v l) :
    Calls Tryd.prog 25 #[.agg (psv N v), .int .u64 (d : Nat)] w fun e w' => e = .returned (.tuple #[.int .i64 (fiA l N d), errC (fiE l N d)]) ∧ Below w.heap.size w w' := by
  have H1 := Lib.hid (fun (w1 : World) (h : EV pinE w1 v l) => check_any v l N w1 h)
  have Hv := Lib.hid hv
  obtain ⟨a, c, rfl, hs, hz, hc, hm⟩ := hv
  have Hs := Lib.hid hs
  obtain ⟨n, hn⟩ : ∃ n, l.length = n := ⟨_, rfl⟩
  have Hn := Lib.hid hn
  have hn9 : n ≤ 9223372036854775807 := by unfold maxLen at hm; omega
  rw [hn] at H1 Hv ⊢
  clear hs hz hc hm
  by_cases hmy : pmayB l N = true
  · rw [show mayE l N = 0 by unfold mayE; rw [if_pos hmy], errC_0] at H1
    have H2 := Lib.hid (fun (w1 : World) (b : Nat) (h : ES pinE w1 a l) (hx : w1.cell? ⟨b, 0, none⟩ = some (.int .u64 (d : Nat))) => index_any a n c l d b w1 Hn.out hn9 h hx)
    rcases pfi_way d l 0 with ⟨hp, _⟩ | ⟨j, hj, hp, _, _⟩
    · rw [hp] at H2
      rw [show fiA l N d = 0 by unfold fiA; rw [fiE_none hmy hp]; rfl, fiE_none hmy hp, errC_6]
      clear hmy hp hn
      go_enter Tryd.func25, Tryd.ntmps25
      go_wp2_with (first
        | (refine wpList_box_arr rfl PS (.tmp 0) rfl (psv N (.slice a n c)) (by rfl) ?_; intro g2 w1 hg1 hk1 hb1)
        | (refine wpList_box_val rfl 22 (.tmp 1) rfl (.int .u64 (d : Nat)) rfl (by rfl) ?_; intro g3 w2 hg2 hk2 hb2; have hj1 := hk1.ext hb2; have q0 := hj1.ps0; have q1 := hj1.ps1))
      have HB := Lib.hid (hb1.trans (hb2.mono hb1.size))
      have HK1 := Lib.hid hj1
      have HK2 := Lib.hid hk2
      refine (H1.out w2 (Hv.out.ext HB.out)).mono ?_
      rintro e w3 ⟨rfl, hb3⟩
      replace HB := Lib.hid (HB.out.trans (hb3.mono HB.out.size))
      replace HK1 := Lib.hid (HK1.out.ext hb3)
      replace HK2 := Lib.hid (HK2.out.ext hb3)
      clear hg1 hg2 hk1 hk2 hb1 hb2 hb3 hj1 q0 q1 H1 Hv
      have q1 := HK1.out.ps1
      go_wp2_with fail
      refine (H2.out w3 g3 (Hs.out.below HB.out (Nat.le_refl _)) (HK2.out.cell 0)).mono ?_
      rintro e w4 ⟨rfl, hb4⟩
      replace HB := Lib.hid (HB.out.trans (hb4.mono HB.out.size))
      clear hb4 HK1 HK2 q1 H2
      go_wp2
      go_ret2
      exact ⟨rfl, HB.out⟩
    · rw [Nat.zero_add] at hp
      rw [hp] at H2
      rw [fiA_at hmy hp, fiE_at hmy hp, errC_0]
      have hj9 : j ≤ 9223372036854775807 := by omega
      clear hmy hp hn hj
      go_enter Tryd.func25, Tryd.ntmps25
      go_wp2_with (first
        | (refine wpList_box_arr rfl PS (.tmp 0) rfl (psv N (.slice a n c)) (by rfl) ?_; intro g2 w1 hg1 hk1 hb1)
        | (refine wpList_box_val rfl 22 (.tmp 1) rfl (.int .u64 (d : Nat)) rfl (by rfl) ?_; intro g3 w2 hg2 hk2 hb2; have hj1 := hk1.ext hb2; have q0 := hj1.ps0; have q1 := hj1.ps1))
      have HB := Lib.hid (hb1.trans (hb2.mono hb1.size))
      have HK1 := Lib.hid hj1
      have HK2 := Lib.hid hk2
      refine (H1.out w2 (Hv.out.ext HB.out)).mono ?_
      rintro e w3 ⟨rfl, hb3⟩
      replace HB := Lib.hid (HB.out.trans (hb3.mono HB.out.size))
      replace HK1 := Lib.hid (HK1.out.ext hb3)
      replace HK2 := Lib.hid (HK2.out.ext hb3)
      clear hg1 hg2 hk1 hk2 hb1 hb2 hb3 hj1 q0 q1 H1 Hv
      have q1 := HK1.out.ps1
      go_wp2_with fail
      refine (H2.out w3 g3 (Hs.out.below HB.out (Nat.le_refl _)) (HK2.out.cell 0)).mono ?_
      rintro e w4 ⟨rfl, hb4⟩
      replace HB := Lib.hid (HB.out.trans (hb4.mono HB.out.size))
      clear hb4 HK1 HK2 q1 H2
      go_wp2
      go_ret2
      exact ⟨rfl, HB.out⟩
  · rw [show mayE l N = 1 by unfold mayE; rw [if_neg hmy], errC_1] at H1
    have hf := fiE_arg (d := d) (Bool.eq_false_iff.2 hmy)
    rw [show fiA l N d = 0 by unfold fiA; rw [hf]; rfl, hf, errC_1]
    clear hmy hf hn
    go_enter Tryd.func25, Tryd.ntmps25
    go_wp2_with (first
      | (refine wpList_box_arr rfl PS (.tmp 0) rfl (psv N (.slice a n c)) (by rfl) ?_; intro g2 w1 hg1 hk1 hb1)
      | (refine wpList_box_val rfl 22 (.tmp 1) rfl (.int .u64 (d : Nat)) rfl (by rfl) ?_; intro g3 w2 hg2 hk2 hb2; have hj1 := hk1.ext hb2; have q0 := hj1.ps0; have q1 := hj1.ps1))
    have HB := Lib.hid (hb1.trans (hb2.mono hb1.size))
    refine (H1.out w2 (Hv.out.ext HB.out)).mono ?_
    rintro e w3 ⟨rfl, hb3⟩
    replace HB := Lib.hid (HB.out.trans (hb3.mono HB.out.size))
    clear hg1 hg2 hk1 hk2 hb1 hb2 hb3 hj1 q0 q1 H1 Hv
    go_wp2
    go_ret2
    exact ⟨rfl, HB.out⟩
end Go.Proofs.YtdgcghknfhhkiaaDoor
