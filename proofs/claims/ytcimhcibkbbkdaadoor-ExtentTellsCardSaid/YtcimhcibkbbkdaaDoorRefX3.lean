/-
  The document's Page, Number.
-/
import Derived.Test.YtcimhcibkbbkdaaDoorRefX2
namespace Go.Proofs.YtcimhcibkbbkdaaDoor
open Go Go.RowKit

theorem ia_drop (is : List Int) (k : Nat) (h : k < is.length) : is.drop k = ia is k :: is.drop (k + 1) := by
  rw [List.drop_eq_getElem_cons h]; simp [ia, List.getD, h]
set_option maxRecDepth 100000 in
theorem xpageR_any (a : Option Addr) (n c : Nat) (l : List Xt) (N : Int) (w : World) (hn : l.length = n) (hs : XS w a l) (hl : n ≤ 9223372036854775807) (hr : ∀ x ∈ l, XOK x) :
    Calls Tryd.prog 9 #[.slice a n c, .int .i64 N] w fun e w' => e = .returned (.tuple #[.int .i64 (xpgV l N), .int .i64 (xpgE l N)]) ∧ Below w.heap.size w w' := by
  have H1 := Lib.hid (xmayR_any a n c l 1024 w hn hs hl hr)
  have H2 : Hid (∀ w1, Below w.heap.size w w1 → _) := fun w1 (hb : Below w.heap.size w w1) => xpages_any a n c l w1 hn (hs.below hb (Nat.le_refl _)) hl hr
  clear hn hs hr
  by_cases hb : xmayB l 1024 = true
  · rw [hb] at H1
    have hp : xpgs l = xflat l := by unfold xpgs; rw [if_pos hb]
    have hM := (xmayB_iff _ _).1 hb
    have hF9 := xflat_le hM
    have hpg : Hid (0 ≤ N → xpgF l N = (xflat l)[N.toNat]?) := fun h => xpgF_flat l N (fun x hx => by have := (hM.ins x hx).2.1; omega) h
    rw [hp] at H2
    obtain ⟨is, his⟩ : ∃ is, xflat l = is := ⟨_, rfl⟩
    rw [his] at H2 hF9 hpg
    obtain ⟨V, hV⟩ : ∃ V, xpgV l N = V := ⟨_, rfl⟩
    obtain ⟨E, hE⟩ : ∃ E, xpgE l N = E := ⟨_, rfl⟩
    have HV : Hid (V = if N < 0 then 0 else (xpgF l N).getD 0) := by show _ = _; rw [← hV]; unfold xpgV; rw [if_pos hb]
    have HE : Hid (E = if N < 0 then 2 else if (xpgF l N).isSome = true then 0 else 2) := by show _ = _; rw [← hE]; unfold xpgE; rw [if_pos hb]
    rw [hV, hE]
    clear hp hM his hV hE hb
    go_enter Tryd.func9, Tryd.ntmps9
    go_wp2_with fail
    refine H1.out.mono ?_
    rintro e w1 ⟨rfl, hb1⟩
    have Hb1 := Lib.hid hb1
    have H3 := Lib.hid (H2.out w1 hb1)
    clear hb1 H1 H2
    go_wp2_with fail
    refine H3.out.mono ?_
    rintro e w2 ⟨v, rfl, ho, hb2⟩
    have Hb2 : Hid (Below w.heap.size w w2) := Hb1.out.trans (hb2.mono Hb1.out.size)
    obtain ⟨a2, c2, rfl, hs2, z2, y2, x2⟩ := own_pages ho
    have Hs2 := Lib.hid hs2
    obtain ⟨m, hm⟩ : ∃ m, is.length = m := ⟨_, rfl⟩
    have Hm := Lib.hid hm
    rw [hm] at hF9 y2 ⊢
    clear ho hb2 hs2 z2 H3 Hb1 hm
    by_cases h0 : N < 0
    · have d0 : decide (N < 0) = true := decide_eq_true h0
      obtain rfl : V = 0 := by rw [HV.out, if_pos h0]
      obtain rfl : E = 2 := by rw [HE.out, if_pos h0]
      clear HV HE hpg
      go_wp2
      go_ret2
      exact ⟨rfl, Hb2.out⟩
    · have d0 : decide (N < 0) = false := decide_eq_false h0
      obtain ⟨k, rfl⟩ := Int.eq_ofNat_of_zero_le (show 0 ≤ N by omega)
      have hq := hpg.out (by omega)
      rw [Int.toNat_natCast] at hq
      by_cases h1 : m ≤ k
      · have d1 : decide ((m : Int) ≤ (k : Int)) = true := decide_eq_true (by omega)
        have d1' : decide (m ≤ k) = true := decide_eq_true h1
        rw [List.getElem?_eq_none (by rw [Hm.out]; exact h1)] at hq
        obtain rfl : V = 0 := by rw [HV.out, if_neg h0, hq]; rfl
        obtain rfl : E = 2 := by rw [HE.out, if_neg h0, hq]; rfl
        clear HV HE hpg hq
        go_wp2
        go_ret2
        exact ⟨rfl, Hb2.out⟩
      · have d1 : decide ((m : Int) ≤ (k : Int)) = false := decide_eq_false (by omega)
        have d1' : decide (m ≤ k) = false := decide_eq_false h1
        obtain ⟨g, o, rfl, hcell⟩ := Hs2.out (by rw [Hm.out]; omega)
        have q0 := hcell k (by rw [Hm.out]; omega)
        have e1 : is[k]? = some (ia is k) := by unfold ia; simp [List.getD, show k < is.length by rw [Hm.out]; omega]
        rw [e1] at hq
        obtain ⟨y, hy⟩ : ∃ y, ia is k = y := ⟨_, rfl⟩
        rw [hy] at q0 hq
        obtain rfl : V = y := by rw [HV.out, if_neg h0, hq]; rfl
        obtain rfl : E = 0 := by rw [HE.out, if_neg h0, hq]; rfl
        have i1 : (k : Int) < (m : Int) := by omega
        have i2 : k < m := by omega
        clear HV HE hpg hq hcell e1 hy
        go_wp2
        go_ret2
        exact ⟨rfl, Hb2.out⟩
  · rw [Bool.eq_false_iff.2 hb] at H1
    have e1 : xpgV l N = 0 := by unfold xpgV; rw [if_neg hb]
    have e2 : xpgE l N = 1 := by unfold xpgE; rw [if_neg hb]
    rw [e1, e2]
    clear e1 e2 hb H2
    go_enter Tryd.func9, Tryd.ntmps9
    go_wp2_with fail
    refine H1.out.mono ?_
    rintro e w1 ⟨rfl, hb1⟩
    have Hb1 := Lib.hid hb1
    clear hb1 H1
    go_wp2
    go_ret2
    exact ⟨rfl, Hb1.out⟩
set_option maxRecDepth 100000 in
theorem xnumberR_any (a : Option Addr) (n c : Nat) (l : List Xt) (N : Int) (w : World) (hn : l.length = n) (hs : XS w a l) (hl : n ≤ 9223372036854775807) (hr : ∀ x ∈ l, XOK x) :
    Calls Tryd.prog 11 #[.slice a n c, .int .i64 N] w fun e w' => e = .returned (.tuple #[.int .i64 (xnuV l N), .int .i64 (xnuE l N)]) ∧ Below w.heap.size w w' := by
  have H1 := Lib.hid (xmayR_any a n c l 1024 w hn hs hl hr)
  have H2 : Hid (∀ w1, Below w.heap.size w w1 → _) := fun w1 (hb : Below w.heap.size w w1) => xpages_any a n c l w1 hn (hs.below hb (Nat.le_refl _)) hl hr
  clear hn hs hr
  by_cases hb : xmayB l 1024 = true
  · rw [hb] at H1
    have hp : xpgs l = xflat l := by unfold xpgs; rw [if_pos hb]
    have hM := (xmayB_iff _ _).1 hb
    have hF9 := xflat_le hM
    have hfi := xfiF_flat l 0 N (fun x hx => by have := (hM.ins x hx).2.1; omega)
    rw [hp] at H2
    obtain ⟨is, his⟩ : ∃ is, xflat l = is := ⟨_, rfl⟩
    rw [his] at H2 hF9 hfi
    obtain ⟨R, hR⟩ : ∃ R, xnuF l 0 N = R := ⟨_, rfl⟩
    have e1 : xnuV l N = R.getD 0 := by unfold xnuV; rw [if_pos hb, hR]
    have e2 : xnuE l N = if R.isSome = true then 0 else 2 := by unfold xnuE; rw [if_pos hb, hR]
    rw [e1, e2]
    rw [hR] at hfi
    have HR := Lib.hid hfi
    clear hp hM his hR hfi e1 e2 hb
    go_enter Tryd.func11, Tryd.ntmps11
    go_wp2_with fail
    refine H1.out.mono ?_
    rintro e w1 ⟨rfl, hb1⟩
    have Hb1 := Lib.hid hb1
    have H3 := Lib.hid (H2.out w1 hb1)
    clear hb1 H1 H2
    go_wp2_with fail
    refine H3.out.mono ?_
    rintro e w2 ⟨v, rfl, ho, hb2⟩
    have Hb2 : Hid (Below w.heap.size w w2) := Hb1.out.trans (hb2.mono Hb1.out.size)
    obtain ⟨a2, c2, rfl, hs2, z2, y2, x2⟩ := own_pages ho
    have Hs2 := Lib.hid hs2
    obtain ⟨m, hm⟩ : ∃ m, is.length = m := ⟨_, rfl⟩
    have Hm := Lib.hid hm
    rw [hm] at hF9 y2 ⊢
    clear ho hb2 hs2 z2 H3 Hb1 hm
    go_wp2_with fail
    go_loopw [7] (fun i wr => ∃ k : Nat, i = .int .i64 k ∧ k ≤ m ∧ Hid (xfiF (is.drop k) (k : Int) N = R) ∧ w2 = wr) (fun i _ => m - (intOf i).toNat)
    case atStart => exact ⟨0, rfl, by omega, by show _ = _; rw [List.drop_zero]; exact HR.out, by first | trivial | rfl⟩
    case round =>
      obtain ⟨k, rfl, hk, hfi, rfl⟩ := hrel
      by_cases hlt : k < m
      · have i1 : (k : Int) < (m : Int) := by omega
        obtain ⟨g, o, rfl, hcell⟩ := Hs2.out (by rw [Hm.out]; omega)
        have q0 := hcell k (by rw [Hm.out]; omega)
        have hf2 := hfi.out
        rw [ia_drop is k (by rw [Hm.out]; exact hlt), xfiF] at hf2
        generalize ia is k = y at *
        by_cases h1 : y = N
        · subst h1
          rw [if_pos rfl] at hf2
          subst hf2
          clear hcell hfi HR
          go_wp2
          go_ret2
          exact ⟨rfl, Hb2.out⟩
        · rw [if_neg h1] at hf2
          have d1 : (y == N) = false := beq_eq_false_iff_ne.2 h1
          have d2 : decide (y = N) = false := decide_eq_false h1
          have Hf2 : Hid (xfiF (is.drop (k + 1)) ((k + 1 : Nat) : Int) N = R) := by show _ = _; rw [← hf2]; congr 1
          clear hcell hfi hf2
          go_wp2
          go_roundw
          case rel => exact ⟨k + 1, by go_num, by omega, Hf2, by first | trivial | rfl⟩
          case measure => simp [intOf]; omega
      · obtain rfl : k = m := by omega
        have e1 : R = none := by
          have := hfi.out
          rw [List.drop_of_length_le (by rw [Hm.out]; exact Nat.le_refl _)] at this; simpa [xfiF] using this.symm
        subst e1
        go_wp2
        go_ret2
        exact ⟨rfl, Hb2.out⟩
  · rw [Bool.eq_false_iff.2 hb] at H1
    have e1 : xnuV l N = 0 := by unfold xnuV; rw [if_neg hb]
    have e2 : xnuE l N = 1 := by unfold xnuE; rw [if_neg hb]
    rw [e1, e2]
    clear e1 e2 hb H2
    go_enter Tryd.func11, Tryd.ntmps11
    go_wp2_with fail
    refine H1.out.mono ?_
    rintro e w1 ⟨rfl, hb1⟩
    have Hb1 := Lib.hid hb1
    clear hb1 H1
    go_wp2
    go_ret2
    exact ⟨rfl, Hb1.out⟩
end Go.Proofs.YtcimhcibkbbkdaaDoor
