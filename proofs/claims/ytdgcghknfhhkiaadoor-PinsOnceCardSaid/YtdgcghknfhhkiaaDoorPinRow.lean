/-
  Rows of readers; ascend, Check.
-/
import Derived.Test.YtdgcghknfhhkiaaDoorPinMem
import Derived.WalkKit
import Derived.Below
import Derived.Lib.Hide
import Derived.Lib.SliceRun
namespace Go.Proofs.YtdgcghknfhhkiaaDoor
open Go Go.RowKit

theorem ES.pin {w : World} {a : Option Addr} {l : List Pn} (h : ES pinE w a l) (h0 : 0 < l.length) : ∃ g o, a = some ⟨g, o, none⟩ ∧ ∀ i, i < l.length → At w g (o + i * 18) (pv (pn l i)) := by
  obtain ⟨g, o, rfl, hc⟩ := h.at h0
  refine ⟨g, o, rfl, fun i hi j u hu => ?_⟩
  have hj : j < 18 := by have := (Array.getElem?_eq_some_iff.1 hu).1; rwa [pv_size] at this
  have e := pinE.row_at l i j _ (pn_at l i hi) hj
  rw [Nat.add_assoc]
  refine hc (i * 18 + j) u ?_
  have e2 : pinE.sz = 18 := rfl
  rw [e2] at e
  rw [e]
  show (pv (pn l i)).toList[j]? = some u
  simpa using hu
/-- An argument's readers: of none nothing is said of the address. -/
def PA (w : World) (a : Option Addr) (l : List Pn) : Prop := 0 < l.length → ES pinE w a l
theorem PA.below {w w' : World} {a : Option Addr} {l : List Pn} {B : Nat} (h : PA w a l) (hb : Below B w w') (hB : w.heap.size ≤ B) : PA w' a l := fun h0 => (h h0).below hb hB
theorem PA.pin {w : World} {a : Option Addr} {l : List Pn} (h : PA w a l) (h0 : 0 < l.length) : ∃ g o, a = some ⟨g, o, none⟩ ∧ ∀ i, i < l.length → At w g (o + i * 18) (pv (pn l i)) := (h h0).pin h0
def PV (w : World) (v : Value) (l : List Pn) : Prop := ∃ a c, v = .slice a l.length c ∧ PA w a l ∧ l.length ≤ c ∧ c ≤ maxLen
theorem PV.ext {w w' : World} {v : Value} {l : List Pn} (h : PV w v l) (hb : Below w.heap.size w w') : PV w' v l := by
  obtain ⟨a, c, rfl, hs, h1⟩ := h
  exact ⟨a, c, rfl, hs.below hb (Nat.le_refl _), h1⟩
theorem EV.pv {w : World} {v : Value} {l : List Pn} (h : EV pinE w v l) : PV w v l := by
  obtain ⟨a, c, rfl, hs, _, h1⟩ := h
  exact ⟨a, c, rfl, fun _ => hs, h1⟩
theorem own_pin {w : World} {B T : Nat} {v : Value} {l : List Pn} (h : w.ownsRow B T 18 v l.length (pinE.row l)) : EV pinE w v l := own_ev (E := pinE) h rfl

set_option maxRecDepth 100000 in
theorem ascend_any (a : Option Addr) (n c : Nat) (l : List Pn) (N : Nat) (w : World) (hn : l.length = n) (hs : ES pinE w a l) (hl : n ≤ 9223372036854775807) :
    Calls Tryd.prog 28 #[.slice a n c, .int .u64 N] w fun e w' => e = .returned (.bool (pasB 0 l N)) ∧ Below w.heap.size w w' := by
  have Hs := Lib.hid hs
  have Hn := Lib.hid hn
  obtain ⟨R, hR⟩ : ∃ R, pasB 0 l N = R := ⟨_, rfl⟩
  rw [hR]
  have HR := Lib.hid hR
  clear hs hn hR
  go_enter Tryd.func28, Tryd.ntmps28
  go_wp2_with fail
  go_loopw [5, 10] (fun t i wr => ∃ (k A : Nat), t = .int .u64 A ∧ i = .int .i64 k ∧ k ≤ n ∧ Hid (pasB A (l.drop k) N = R) ∧ Hid (Below w.heap.size w wr)) (fun _ i _ => n - (intOf i).toNat)
  case atStart => exact ⟨0, 0, rfl, rfl, by omega, HR.out, Below.refl _ _⟩
  case round =>
    obtain ⟨k, A, rfl, rfl, hk, hA, hB⟩ := hrel
    by_cases hlt : k < n
    · obtain ⟨g, o, rfl, hcell⟩ := (Hs.out.below hB.out (Nat.le_refl _)).pin (by rw [Hn.out]; omega)
      have Hc := Lib.hid (hcell k (by rw [Hn.out]; exact hlt))
      have hA2 := hA.out
      rw [pn_drop l k (by rw [Hn.out]; exact hlt), pasB] at hA2
      generalize pn l k = y at *
      obtain ⟨I, S, F⟩ := y
      dsimp only at hA2
      have HA := Lib.hid hA2
      have i1 : (k : Int) < (n : Int) := by omega
      clear hcell hA hA2
      by_cases h1 : I ≤ A
      · have d1 : decide ((I : Int) ≤ (A : Int)) = true := decide_eq_true (by omega)
        have e1 : R = false := by have := HA.out; rw [decide_eq_false (show ¬ A < I by omega)] at this; simpa using this.symm
        clear HA
        subst e1
        go_wp2_with (first
          | (refine wpList_load_agg rfl PT (.tmp 12) rfl g (o + k * 18) (pv ⟨I, S, F⟩) (by rfl) agg_PT Hc.out (pv_size _) ?_)
          | (refine wpList_alloc_arr rfl PT rfl arrz_PT ?_; intro g7 w7 hg7 hk7 hb7)
          | (refine wpList_store_agg rfl PT (.tmp 7) (.tmp 13) rfl g7 (pv ⟨I, S, F⟩) _ PT (by rfl) (by rfl) agg_PT hk7 (pv_size _) (pv_size _) (pv_one _) ?_; intro w8 hk8 ht8 hs8; have q0 := hk8.at.id))
        go_ret
        exact ⟨rfl, hB.out.trans ((hb7.mono hB.out.size).trans (ht8.below (by have := hb7.size; have := hB.out.size; omega) (fun i hi => by subst hi; have := hB.out.size; omega)))⟩
      · have d1 : decide ((I : Int) ≤ (A : Int)) = false := decide_eq_false (by omega)
        by_cases h2 : N < I
        · have d2 : decide ((N : Int) < (I : Int)) = true := decide_eq_true (by omega)
          have e1 : R = false := by have := HA.out; rw [decide_eq_false (show ¬ I ≤ N by omega), Bool.false_and, Bool.and_false] at this; exact this.symm
          clear HA
          subst e1
          go_wp2_with (first
            | (refine wpList_load_agg rfl PT (.tmp 12) rfl g (o + k * 18) (pv ⟨I, S, F⟩) (by rfl) agg_PT Hc.out (pv_size _) ?_)
            | (refine wpList_alloc_arr rfl PT rfl arrz_PT ?_; intro g7 w7 hg7 hk7 hb7)
            | (refine wpList_store_agg rfl PT (.tmp 7) (.tmp 13) rfl g7 (pv ⟨I, S, F⟩) _ PT (by rfl) (by rfl) agg_PT hk7 (pv_size _) (pv_size _) (pv_one _) ?_; intro w8 hk8 ht8 hs8; have q0 := hk8.at.id))
          go_ret
          exact ⟨rfl, hB.out.trans ((hb7.mono hB.out.size).trans (ht8.below (by have := hb7.size; have := hB.out.size; omega) (fun i hi => by subst hi; have := hB.out.size; omega)))⟩
        · have d2 : decide ((N : Int) < (I : Int)) = false := decide_eq_false (by omega)
          have e1 : Hid (pasB I (l.drop (k + 1)) N = R) := by
            show _ = _
            have := HA.out
            rw [decide_eq_true (show A < I by omega), decide_eq_true (show I ≤ N by omega), Bool.true_and, Bool.true_and] at this
            exact this
          clear HA
          go_wp2_with (first
            | (refine wpList_load_agg rfl PT (.tmp 12) rfl g (o + k * 18) (pv ⟨I, S, F⟩) (by rfl) agg_PT Hc.out (pv_size _) ?_)
            | (refine wpList_alloc_arr rfl PT rfl arrz_PT ?_; intro g7 w7 hg7 hk7 hb7)
            | (refine wpList_store_agg rfl PT (.tmp 7) (.tmp 13) rfl g7 (pv ⟨I, S, F⟩) _ PT (by rfl) (by rfl) agg_PT hk7 (pv_size _) (pv_size _) (pv_one _) ?_; intro w8 hk8 ht8 hs8; have q0 := hk8.at.id))
          go_roundw
          case rel => exact ⟨k + 1, I, rfl, by go_num, by omega, e1, hB.out.trans ((hb7.mono hB.out.size).trans (ht8.below (by have := hb7.size; have := hB.out.size; omega) (fun i hi => by subst hi; have := hB.out.size; omega)))⟩
          case measure => simp [intOf]; omega
    · obtain rfl : k = n := by omega
      have e1 : R = true := by have := hA.out; rw [List.drop_of_length_le (by rw [Hn.out]; exact Nat.le_refl _)] at this; simpa [pasB] using this.symm
      subst e1
      go_wp2
      go_ret
      exact ⟨rfl, hB.out⟩
end Go.Proofs.YtdgcghknfhhkiaaDoor
